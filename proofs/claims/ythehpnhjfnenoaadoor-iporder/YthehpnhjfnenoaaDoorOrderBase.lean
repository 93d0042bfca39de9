/-
  The walk of herepathlaw1.IpOrder: it returns true, whatever the three prefixes.
-/
import Derived.Test.YthehpnhjfnenoaaDoorAddressed
import Derived.Test.YthehpnhjfnenoaaDoorOrderMath
namespace Go.Proofs.YthehpnhjfnenoaaDoor
open Go.RowKit

/-- Three prefixes in boxes of the call's own, the first at block b. -/
structure Bx3 (w w' : World) (b : Nat) (pa pn qa qn sa sn : Int) (et eb es : Addr) (m : Int) : Prop where
  p0 : w'.cell? ⟨b, 0, none⟩ = some (.int .i64 pa)
  p1 : w'.cell? ⟨b, 1, none⟩ = some (.int .i64 pn)
  q0 : w'.cell? ⟨b + 1, 0, none⟩ = some (.int .i64 qa)
  q1 : w'.cell? ⟨b + 1, 1, none⟩ = some (.int .i64 qn)
  s0 : w'.cell? ⟨b + 1 + 1, 0, none⟩ = some (.int .i64 sa)
  s1 : w'.cell? ⟨b + 1 + 1, 1, none⟩ = some (.int .i64 sn)
  env : IpEnv w' et eb es m
  hb : Below w.heap.size w w'
theorem Bx3.below {w w1 w2 : World} {b : Nat} {pa pn qa qn sa sn : Int} {et eb es : Addr} {m : Int} (h : Bx3 w w1 b pa pn qa qn sa sn et eb es m) (hb : Below w1.heap.size w1 w2) : Bx3 w w2 b pa pn qa qn sa sn et eb es m :=
  ⟨cell_kept hb h.p0, cell_kept hb h.p1, cell_kept hb h.q0, cell_kept hb h.q1, cell_kept hb h.s0, cell_kept hb h.s1, h.env.below hb, h.hb.trans (hb.mono h.hb.size)⟩
theorem Bx3.errs {w w1 : World} {b : Nat} {pa pn qa qn sa sn : Int} {et eb es : Addr} {m : Int} (h : Bx3 w w1 b pa pn qa qn sa sn et eb es m) : IpErrs w1 et eb es := h.env.errs
theorem bx3_mk (w : World) (pa pn qa qn sa sn : Int) (et eb es : Addr) (m : Int) (h : IpEnv w et eb es m) :
    Bx3 w (((w.alloc (.cells #[.int .i64 pa, .int .i64 pn] 36)).alloc (.cells #[.int .i64 qa, .int .i64 qn] 36)).alloc (.cells #[.int .i64 sa, .int .i64 sn] 36)) w.heap.size pa pn qa qn sa sn et eb es m := by
  refine ⟨?_, ?_, ?_, ?_, ?_, ?_, ((h.alloc _).alloc _).alloc _, ?_⟩
  · rw [World.cell?_alloc_past _ _ _ (by simp; omega), World.cell?_alloc_past _ _ _ (by simp), World.cell?_alloc_at _ _ _ _ rfl]; rfl
  · rw [World.cell?_alloc_past _ _ _ (by simp; omega), World.cell?_alloc_past _ _ _ (by simp), World.cell?_alloc_at _ _ _ _ rfl]; rfl
  · rw [World.cell?_alloc_past _ _ _ (by simp), World.cell?_alloc_at _ _ _ _ (by simp)]; rfl
  · rw [World.cell?_alloc_past _ _ _ (by simp), World.cell?_alloc_at _ _ _ _ (by simp)]; rfl
  · rw [World.cell?_alloc_at _ _ _ _ (by simp)]; rfl
  · rw [World.cell?_alloc_at _ _ _ _ (by simp)]; rfl
  · exact (((Below.refl _ _).alloc (Nat.le_refl _) _).alloc (by simp) _).alloc (by simp; omega) _

theorem Bx3.drew {w w1 : World} {b : Nat} {pa pn qa qn sa sn : Int} {et eb es : Addr} {m : Int} (h : Bx3 w w1 b pa pn qa qn sa sn et eb es m) : Bx3 w w1.drew b pa pn qa qn sa sn et eb es m :=
  h.below ((Below.refl _ _).drew)
theorem less_at (aa an ba bn : Int) (b : Bool) (hb : lessB aa an ba bn = b) (et eb es : Addr) (w : World) (hE : IpErrs w et eb es) :
    Calls Tryd.prog 16 #[.agg #[.int .i64 aa, .int .i64 an], .agg #[.int .i64 ba, .int .i64 bn]] w fun e w' => e = .returned (.bool b) ∧ Below w.heap.size w w' := by
  subst hb
  exact less_any aa an ba bn et eb es w hE
theorem in_at (qa qn pa pn : Int) (b : Bool) (hb : inB qa qn pa pn = b) (et eb es : Addr) (w : World) (hE : IpErrs w et eb es) :
    Calls Tryd.prog 19 #[.agg #[.int .i64 qa, .int .i64 qn], .agg #[.int .i64 pa, .int .i64 pn]] w fun e w' => e = .returned (.bool b) ∧ Below w.heap.size w w' := by
  subst hb
  exact in_any qa qn pa pn et eb es w hE
theorem held5e {A B C D : Prop} {w w1 : World} {b : Nat} {pa pn qa qn sa sn : Int} {et eb es : Addr} {m : Int} (h : A ∧ B ∧ C ∧ D ∧ Bx3 w w1 b pa pn qa qn sa sn et eb es m) : IpErrs w1 et eb es := h.2.2.2.2.errs
theorem held5b {A B C D : Prop} {w w1 w2 : World} {b : Nat} {pa pn qa qn sa sn : Int} {et eb es : Addr} {m : Int} (h : A ∧ B ∧ C ∧ D ∧ Bx3 w w1 b pa pn qa qn sa sn et eb es m) (hb : Below w1.heap.size w1 w2) : Bx3 w w2 b pa pn qa qn sa sn et eb es m := h.2.2.2.2.below hb

set_option linter.unusedSimpArgs false in
set_option maxRecDepth 100000 in
set_option maxHeartbeats 8000000 in
/-- one of the three is not right: the law says nothing. -/
theorem order_not (pa pn qa qn sa sn : Int) (et eb es : Addr) (m : Int) (w : World) (h : IpEnv w et eb es m) (hr : rt pa pn = false ∨ rt qa qn = false ∨ rt sa sn = false) :
    Calls Tryd.prog 6 #[.agg #[.int .i64 pa, .int .i64 pn], .agg #[.int .i64 qa, .int .i64 qn], .agg #[.int .i64 sa, .int .i64 sn]] w fun e w' => e = .returned (.bool true) ∧ Below w.heap.size w w' := by
  have B0 := bx3_mk w pa pn qa qn sa sn et eb es m h
  clear h
  by_cases hp : rt pa pn = false
  · obtain ⟨x, hx⟩ := chk_err pa pn eb es hp
    clear hr
    go_enter Tryd.func6, Tryd.ntmps6
    go_wp2_with (first | (go_at_call 12; refine (addressed_any et eb es m _ (Bx3.env (by assumption))).mono ?_; rintro e wk ⟨rfl, hbk⟩; have Bk := Bx3.below (by assumption) hbk; clear hbk; obtain ⟨p0, p1, q0, q1, s0, s1, -, -⟩ := id Bk) | (go_at_call 13; refine (check_any _ _ et eb es _ (Bx3.errs (by assumption))).mono ?_; rintro e wk ⟨rfl, hbk⟩; have Bk := Bx3.below (by assumption) hbk; clear hbk; obtain ⟨p0, p1, q0, q1, s0, s1, -, -⟩ := id Bk) | (go_at_call 16; refine (less_at _ _ _ _ _ (by assumption) et eb es _ (Bx3.errs (by assumption))).mono ?_; rintro e wk ⟨rfl, hbk⟩; have Bk := Bx3.below (by assumption) hbk; clear hbk; obtain ⟨p0, p1, q0, q1, s0, s1, -, -⟩ := id Bk) | (go_at_call 19; refine (in_at _ _ _ _ _ (by assumption) et eb es _ (Bx3.errs (by assumption))).mono ?_; rintro e wk ⟨rfl, hbk⟩; have Bk := Bx3.below (by assumption) hbk; clear hbk; obtain ⟨p0, p1, q0, q1, s0, s1, -, -⟩ := id Bk))
    go_ret
    exact ⟨rfl, Bk.hb⟩
  have hp' := chk_nil pa pn eb es (by simpa using hp)
  by_cases hq : rt qa qn = false
  · obtain ⟨x, hx⟩ := chk_err qa qn eb es hq
    clear hr
    go_enter Tryd.func6, Tryd.ntmps6
    go_wp2_with (first | (go_at_call 12; refine (addressed_any et eb es m _ (Bx3.env (by assumption))).mono ?_; rintro e wk ⟨rfl, hbk⟩; have Bk := Bx3.below (by assumption) hbk; clear hbk; obtain ⟨p0, p1, q0, q1, s0, s1, -, -⟩ := id Bk) | (go_at_call 13; refine (check_any _ _ et eb es _ (Bx3.errs (by assumption))).mono ?_; rintro e wk ⟨rfl, hbk⟩; have Bk := Bx3.below (by assumption) hbk; clear hbk; obtain ⟨p0, p1, q0, q1, s0, s1, -, -⟩ := id Bk) | (go_at_call 16; refine (less_at _ _ _ _ _ (by assumption) et eb es _ (Bx3.errs (by assumption))).mono ?_; rintro e wk ⟨rfl, hbk⟩; have Bk := Bx3.below (by assumption) hbk; clear hbk; obtain ⟨p0, p1, q0, q1, s0, s1, -, -⟩ := id Bk) | (go_at_call 19; refine (in_at _ _ _ _ _ (by assumption) et eb es _ (Bx3.errs (by assumption))).mono ?_; rintro e wk ⟨rfl, hbk⟩; have Bk := Bx3.below (by assumption) hbk; clear hbk; obtain ⟨p0, p1, q0, q1, s0, s1, -, -⟩ := id Bk))
    go_ret
    exact ⟨rfl, Bk.hb⟩
  have hq' := chk_nil qa qn eb es (by simpa using hq)
  have hs : rt sa sn = false := by
    rcases hr with h | h | h
    · exact absurd h hp
    · exact absurd h hq
    · exact h
  · obtain ⟨x, hx⟩ := chk_err sa sn eb es hs
    clear hr
    go_enter Tryd.func6, Tryd.ntmps6
    go_wp2_with (first | (go_at_call 12; refine (addressed_any et eb es m _ (Bx3.env (by assumption))).mono ?_; rintro e wk ⟨rfl, hbk⟩; have Bk := Bx3.below (by assumption) hbk; clear hbk; obtain ⟨p0, p1, q0, q1, s0, s1, -, -⟩ := id Bk) | (go_at_call 13; refine (check_any _ _ et eb es _ (Bx3.errs (by assumption))).mono ?_; rintro e wk ⟨rfl, hbk⟩; have Bk := Bx3.below (by assumption) hbk; clear hbk; obtain ⟨p0, p1, q0, q1, s0, s1, -, -⟩ := id Bk) | (go_at_call 16; refine (less_at _ _ _ _ _ (by assumption) et eb es _ (Bx3.errs (by assumption))).mono ?_; rintro e wk ⟨rfl, hbk⟩; have Bk := Bx3.below (by assumption) hbk; clear hbk; obtain ⟨p0, p1, q0, q1, s0, s1, -, -⟩ := id Bk) | (go_at_call 19; refine (in_at _ _ _ _ _ (by assumption) et eb es _ (Bx3.errs (by assumption))).mono ?_; rintro e wk ⟨rfl, hbk⟩; have Bk := Bx3.below (by assumption) hbk; clear hbk; obtain ⟨p0, p1, q0, q1, s0, s1, -, -⟩ := id Bk))
    go_ret
    exact ⟨rfl, Bk.hb⟩

set_option linter.unusedSimpArgs false in
set_option maxRecDepth 100000 in
set_option maxHeartbeats 8000000 in
/-- the first two are one. -/
theorem order_same (pa pn qa qn sa sn : Int) (et eb es : Addr) (m : Int) (w : World) (h : IpEnv w et eb es m) (hp : rt pa pn = true) (hs : rt sa sn = true) (e0 : qa = pa) (e1 : qn = pn) :
    Calls Tryd.prog 6 #[.agg #[.int .i64 pa, .int .i64 pn], .agg #[.int .i64 qa, .int .i64 qn], .agg #[.int .i64 sa, .int .i64 sn]] w fun e w' => e = .returned (.bool true) ∧ Below w.heap.size w w' := by
  subst e0 e1
  have B0 := bx3_mk w qa qn qa qn sa sn et eb es m h
  clear h
  have hp' := chk_nil qa qn eb es hp
  have hs' := chk_nil sa sn eb es hs
  have hl := less_self hp
  have hi := in_self hp
  clear hp hs
  go_enter Tryd.func6, Tryd.ntmps6
  go_wp2_with (first | (go_at_call 12; refine (addressed_any et eb es m _ (Bx3.env (by assumption))).mono ?_; rintro e wk ⟨rfl, hbk⟩; have Bk := Bx3.below (by assumption) hbk; clear hbk; obtain ⟨p0, p1, q0, q1, s0, s1, -, -⟩ := id Bk) | (go_at_call 13; refine (check_any _ _ et eb es _ (Bx3.errs (by assumption))).mono ?_; rintro e wk ⟨rfl, hbk⟩; have Bk := Bx3.below (by assumption) hbk; clear hbk; obtain ⟨p0, p1, q0, q1, s0, s1, -, -⟩ := id Bk) | (go_at_call 16; refine (less_at _ _ _ _ _ (by assumption) et eb es _ (Bx3.errs (by assumption))).mono ?_; rintro e wk ⟨rfl, hbk⟩; have Bk := Bx3.below (by assumption) hbk; clear hbk; obtain ⟨p0, p1, q0, q1, s0, s1, -, -⟩ := id Bk) | (go_at_call 19; refine (in_at _ _ _ _ _ (by assumption) et eb es _ (Bx3.errs (by assumption))).mono ?_; rintro e wk ⟨rfl, hbk⟩; have Bk := Bx3.below (by assumption) hbk; clear hbk; obtain ⟨p0, p1, q0, q1, s0, s1, -, -⟩ := id Bk))
  go_ret
  exact ⟨rfl, Bk.hb⟩

end Go.Proofs.YthehpnhjfnenoaaDoor
