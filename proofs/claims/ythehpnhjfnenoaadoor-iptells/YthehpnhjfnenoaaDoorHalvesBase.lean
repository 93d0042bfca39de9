/-
  What the walk of herepathlaw1.IpHalves carries along: two prefixes in boxes of the call's own; the callees by their contracts, each answer a letter.
-/
import Derived.Test.YthehpnhjfnenoaaDoorAddressed
import Derived.Test.YthehpnhjfnenoaaDoorHalves
import Derived.Test.YthehpnhjfnenoaaDoorHalvesMath
import Derived.Deep.Cut
import Derived.Deep.CutRange
namespace Go.Proofs.YthehpnhjfnenoaaDoor
open Go.RowKit

structure Bx2 (w w' : World) (b : Nat) (pa pn qa qn : Int) (et eb es en : Addr) (m : Int) : Prop where
  p0 : w'.cell? ⟨b, 0, none⟩ = some (.int .i64 pa)
  p1 : w'.cell? ⟨b, 1, none⟩ = some (.int .i64 pn)
  q0 : w'.cell? ⟨b + 1, 0, none⟩ = some (.int .i64 qa)
  q1 : w'.cell? ⟨b + 1, 1, none⟩ = some (.int .i64 qn)
  non : w'.cell? ⟨4, 0, none⟩ = some (.iface 72 (.pointer (some en)))
  env : IpEnv w' et eb es m
  hb : Below w.heap.size w w'
section
variable {w w1 w2 : World} {b : Nat} {pa pn qa qn : Int} {et eb es en : Addr} {m : Int}
theorem Bx2.below (h : Bx2 w w1 b pa pn qa qn et eb es en m) (hb : Below w1.heap.size w1 w2) : Bx2 w w2 b pa pn qa qn et eb es en m :=
  ⟨cell_kept hb h.p0, cell_kept hb h.p1, cell_kept hb h.q0, cell_kept hb h.q1, cell_kept hb h.non, h.env.below hb, h.hb.trans (hb.mono h.hb.size)⟩
theorem Bx2.alloc (h : Bx2 w w1 b pa pn qa qn et eb es en m) (o : Obj) : Bx2 w (w1.alloc o) b pa pn qa qn et eb es en m := h.below (below_alloc _ _)
theorem Bx2.drew (h : Bx2 w w1 b pa pn qa qn et eb es en m) : Bx2 w w1.drew b pa pn qa qn et eb es en m := h.below (Below.refl _ _).drew
theorem Bx2.drewN (h : Bx2 w w1 b pa pn qa qn et eb es en m) (k : Nat) : Bx2 w (w1.drewN k) b pa pn qa qn et eb es en m := h.below (below_drewN (Below.refl _ _) k)
theorem Bx2.errs (h : Bx2 w w1 b pa pn qa qn et eb es en m) : IpErrs w1 et eb es := h.env.errs
end
theorem bx2_mk (w : World) (pa pn qa qn : Int) (et eb es en : Addr) (m : Int) (h : IpEnv w et eb es m) (hn : w.cell? ⟨4, 0, none⟩ = some (.iface 72 (.pointer (some en)))) :
    Bx2 w ((w.alloc (.cells #[.int .i64 pa, .int .i64 pn] 36)).alloc (.cells #[.int .i64 qa, .int .i64 qn] 36)) w.heap.size pa pn qa qn et eb es en m := by
  have hb : Below w.heap.size w ((w.alloc (.cells #[.int .i64 pa, .int .i64 pn] 36)).alloc (.cells #[.int .i64 qa, .int .i64 qn] 36)) := ((Below.refl _ _).alloc (Nat.le_refl _) _).alloc (by simp) _
  refine ⟨?_, ?_, ?_, ?_, cell_kept hb hn, h.below hb, hb⟩
  · rw [World.cell?_alloc_past _ _ _ (by simp), World.cell?_alloc_at _ _ _ _ rfl]; rfl
  · rw [World.cell?_alloc_past _ _ _ (by simp), World.cell?_alloc_at _ _ _ _ rfl]; rfl
  · rw [World.cell?_alloc_at _ _ _ _ (by simp)]; rfl
  · rw [World.cell?_alloc_at _ _ _ _ (by simp)]; rfl

theorem has_at (p n a : Int) (b : Bool) (hb : hasB p n a = b) (et eb es : Addr) (w : World) (hE : IpErrs w et eb es) :
    Calls Tryd.prog 15 #[.agg #[.int .i64 p, .int .i64 n], .int .i64 a] w fun e w' => e = .returned (.bool b) ∧ Below w.heap.size w w' := by
  subst hb
  exact has_any p n a et eb es w hE
theorem less_at (aa an ba bn : Int) (b : Bool) (hb : lessB aa an ba bn = b) (et eb es : Addr) (w : World) (hE : IpErrs w et eb es) :
    Calls Tryd.prog 16 #[.agg #[.int .i64 aa, .int .i64 an], .agg #[.int .i64 ba, .int .i64 bn]] w fun e w' => e = .returned (.bool b) ∧ Below w.heap.size w w' := by
  subst hb
  exact less_any aa an ba bn et eb es w hE
theorem in_at (qa qn pa pn : Int) (b : Bool) (hb : inB qa qn pa pn = b) (et eb es : Addr) (w : World) (hE : IpErrs w et eb es) :
    Calls Tryd.prog 19 #[.agg #[.int .i64 qa, .int .i64 qn], .agg #[.int .i64 pa, .int .i64 pn]] w fun e w' => e = .returned (.bool b) ∧ Below w.heap.size w w' := by
  subst hb
  exact in_any qa qn pa pn et eb es w hE
theorem size_at (a n s : Int) (hs : Hid (sizeI a n = s)) (et eb es : Addr) (w : World) (hE : IpErrs w et eb es) :
    Calls Tryd.prog 18 #[.agg #[.int .i64 a, .int .i64 n]] w fun e w' => e = .returned (.int .i64 s) ∧ Below w.heap.size w w' := by
  rw [← hs.out]
  exact size_any a n et eb es w hE
theorem up_at (a n c k : Int) (et eb es : Addr) (w : World) (hE : IpErrs w et eb es) (hr : rt a n = true) (hn : 0 < n) (hc : Hid (a - a % pw (n - 1) = c)) (hk : Hid (n - 1 = k)) :
    Calls Tryd.prog 17 #[.agg #[.int .i64 a, .int .i64 n]] w fun e w' => e = .returned (.tuple #[.agg #[.int .i64 c, .int .i64 k], .nilIface]) ∧ Below w.heap.size w w' := by
  rw [← hk.out]
  exact up_ok a n c et eb es w hE hr hn hc
theorem check_at (a n : Int) (v : Value) (et eb es : Addr) (hv : chk a n eb es = v) (w : World) (hE : IpErrs w et eb es) :
    Calls Tryd.prog 13 #[.agg #[.int .i64 a, .int .i64 n]] w fun e w' => e = .returned v ∧ Below w.heap.size w w' := by
  rw [← hv]
  exact check_any a n et eb es w hE
set_option linter.unusedSimpArgs false in
set_option maxRecDepth 100000 in
set_option maxHeartbeats 16000000 in
/-- one of the two is not right: the law says nothing. -/
theorem halves_not (pa pn qa qn a : Int) (et eb es en : Addr) (m : Int) (w : World) (h : IpEnv w et eb es m) (hn : w.cell? ⟨4, 0, none⟩ = some (.iface 72 (.pointer (some en)))) (hr : rt pa pn = false ∨ rt qa qn = false) :
    Calls Tryd.prog 4 #[.agg #[.int .i64 pa, .int .i64 pn], .agg #[.int .i64 qa, .int .i64 qn], .int .i64 a] w fun e w' => e = .returned (.bool true) ∧ Below w.heap.size w w' := by
  have B0 := bx2_mk w pa pn qa qn et eb es en m h hn
  clear h hn
  by_cases hp : rt pa pn = false
  · obtain ⟨x, hx⟩ := chk_err pa pn eb es hp
    clear hr
    go_enter Tryd.func4, Tryd.ntmps4
    go_wp2_with (first | (go_at_call 12; refine (addressed_any et eb es m _ (Bx2.env (by assumption))).mono ?_; rintro e wk ⟨rfl, hbk⟩; have Bk := Bx2.below (by assumption) hbk; clear hbk; obtain ⟨p0, p1, q0, q1, -, -, -⟩ := id Bk) | (go_at_call 13; refine (check_at _ _ _ et eb es (by assumption) _ (Bx2.errs (by assumption))).mono ?_; rintro e wk ⟨rfl, hbk⟩; have Bk := Bx2.below (by assumption) hbk; clear hbk; obtain ⟨p0, p1, q0, q1, -, -, -⟩ := id Bk) | (go_at_call 15; refine (has_at _ _ _ _ (by assumption) et eb es _ (Bx2.errs (by assumption))).mono ?_; rintro e wk ⟨rfl, hbk⟩; have Bk := Bx2.below (by assumption) hbk; clear hbk; obtain ⟨p0, p1, q0, q1, -, -, -⟩ := id Bk) | (go_at_call 19; refine (in_at _ _ _ _ _ (by assumption) et eb es _ (Bx2.errs (by assumption))).mono ?_; rintro e wk ⟨rfl, hbk⟩; have Bk := Bx2.below (by assumption) hbk; clear hbk; obtain ⟨p0, p1, q0, q1, -, -, -⟩ := id Bk))
    go_ret
    exact ⟨rfl, Bk.hb⟩
  have hp' := chk_nil pa pn eb es (by simpa using hp)
  have hq : rt qa qn = false := by
    rcases hr with h | h
    · exact absurd h hp
    · exact h
  obtain ⟨x, hx⟩ := chk_err qa qn eb es hq
  clear hr
  go_enter Tryd.func4, Tryd.ntmps4
  go_wp2_with (first | (go_at_call 12; refine (addressed_any et eb es m _ (Bx2.env (by assumption))).mono ?_; rintro e wk ⟨rfl, hbk⟩; have Bk := Bx2.below (by assumption) hbk; clear hbk; obtain ⟨p0, p1, q0, q1, -, -, -⟩ := id Bk) | (go_at_call 13; refine (check_at _ _ _ et eb es (by assumption) _ (Bx2.errs (by assumption))).mono ?_; rintro e wk ⟨rfl, hbk⟩; have Bk := Bx2.below (by assumption) hbk; clear hbk; obtain ⟨p0, p1, q0, q1, -, -, -⟩ := id Bk) | (go_at_call 15; refine (has_at _ _ _ _ (by assumption) et eb es _ (Bx2.errs (by assumption))).mono ?_; rintro e wk ⟨rfl, hbk⟩; have Bk := Bx2.below (by assumption) hbk; clear hbk; obtain ⟨p0, p1, q0, q1, -, -, -⟩ := id Bk) | (go_at_call 19; refine (in_at _ _ _ _ _ (by assumption) et eb es _ (Bx2.errs (by assumption))).mono ?_; rintro e wk ⟨rfl, hbk⟩; have Bk := Bx2.below (by assumption) hbk; clear hbk; obtain ⟨p0, p1, q0, q1, -, -, -⟩ := id Bk))
  go_ret
  exact ⟨rfl, Bk.hb⟩
end Go.Proofs.YthehpnhjfnenoaaDoor
