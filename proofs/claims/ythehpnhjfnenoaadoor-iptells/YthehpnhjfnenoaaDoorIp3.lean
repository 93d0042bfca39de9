/-
  ip.Cut, ip.Up, ip.Halves: what each returns at right prefixes (and Cut at every pair of numbers).
-/
import Derived.Test.YthehpnhjfnenoaaDoorIp2
import Derived.RegionTactic
import Derived.Laws.ResultCell
namespace Go.Proofs.YthehpnhjfnenoaaDoor
open Go.RowKit

theorem setCell_kept {w : World} {b : Nat} {p : Addr} {u : Value} (h : w.cell? p = some u) (hne : p.block ≠ b) (x y : Value) : ((w.setCell ⟨b, 0, none⟩ x).setCell ⟨b, 1, none⟩ y).cell? p = some u := by
  rw [World.cell?_setCell_far _ _ _ _ (Ne.symm hne), World.cell?_setCell_far _ _ _ _ (Ne.symm hne)]; exact h

set_option maxRecDepth 100000 in
set_option maxHeartbeats 1000000 in
theorem cut_ok (a n c : Int) (w : World) (hA : isA a = true) (hL : isL n = true) (hc : Hid (a - a % pw n = c)) :
    Calls Tryd.prog 20 #[.int .i64 a, .int .i64 n] w fun e w' => e = .returned (.tuple #[.agg #[.int .i64 c, .int .i64 n], .nilIface]) ∧ Below w.heap.size w w' := by
  obtain ⟨a0, a1⟩ := (isA_iff a).1 hA
  obtain ⟨n0, n1⟩ := (isL_iff n).1 hL
  have hbits : bits .andNot .i64 a (pw n - 1) = c := by rw [← hc.out]; exact andNot_rest a n a0 a1 n0 n1
  go_enter Tryd.func20, Tryd.ntmps20
  go_wp2_with (first | (go_at_call 46; refine (isAddr_any _ _).mono ?_; rintro e w' ⟨rfl, rfl⟩) | (go_at_call 47; refine (isLen_any _ _).mono ?_; rintro e w' ⟨rfl, rfl⟩) | (go_at_call 48; refine (restBits_any n _ n0 n1).mono ?_; rintro e w' ⟨rfl, hw'⟩; subst hw'))
  exact bodyPost_ret (v := .tuple #[.agg #[.int .i64 c, .int .i64 n], .nilIface]) (by simp [results, Tryd.results20, go_sem]) rfl ⟨rfl, by first | exact below_alloc _ _ | exact (((below_alloc _ _).setCell (Nat.le_refl _) _).setCell (Nat.le_refl _) _)⟩

set_option maxRecDepth 100000 in
set_option maxHeartbeats 1000000 in
theorem cut_bad (a n : Int) (et eb es : Addr) (w : World) (hE : IpErrs w et eb es) (hbad : isA a = false ∨ (isA a = true ∧ isL n = false)) :
    Calls Tryd.prog 20 #[.int .i64 a, .int .i64 n] w fun e w' => e = .returned (.tuple #[.agg #[.int .i64 0, .int .i64 0], .iface 72 (.pointer (some eb))]) ∧ Below w.heap.size w w' := by
  have gb := hE.bound
  have gl : 1 < w.heap.size := cell_lt' gb
  clear hE
  rcases hbad with hA | ⟨hA, hL⟩
  all_goals
    go_enter Tryd.func20, Tryd.ntmps20
    go_wp2_with (first | (go_at_call 46; refine (isAddr_any _ _).mono ?_; rintro e w' ⟨rfl, hw'⟩; subst hw') | (go_at_call 47; refine (isLen_any _ _).mono ?_; rintro e w' ⟨rfl, hw'⟩; subst hw'))
    go_region
    go_wp2
    exact bodyPost_ret (v := .tuple #[.agg #[.int .i64 0, .int .i64 0], .iface 72 (.pointer (some eb))]) (by simp [results, Tryd.results20, go_sem]) rfl ⟨rfl, (below_alloc _ _).drew⟩

/-- the boxes of a call of Up or Halves behind Check. -/
theorem box_cells {W w1 : World} (hb : Below W.heap.size W w1) {b : Nat} {x y : Value} (h0 : W.cell? ⟨b, 0, none⟩ = some x) (h1 : W.cell? ⟨b, 1, none⟩ = some y) (f0 : W.frozen? ⟨b, 0, none⟩ = false) (f1 : W.frozen? ⟨b, 1, none⟩ = false) :
    w1.cell? ⟨b, 0, none⟩ = some x ∧ w1.cell? ⟨b, 1, none⟩ = some y ∧ w1.frozen? ⟨b, 0, none⟩ = false ∧ w1.frozen? ⟨b, 1, none⟩ = false :=
  ⟨cell_kept hb h0, cell_kept hb h1, by rw [hb.frozen (p := ⟨b, 0, none⟩) (cell_lt' h0)]; exact f0, by rw [hb.frozen (p := ⟨b, 1, none⟩) (cell_lt' h1)]; exact f1⟩

set_option maxRecDepth 100000 in
set_option maxHeartbeats 1000000 in
theorem up_ok (a n c : Int) (et eb es : Addr) (w : World) (hE : IpErrs w et eb es) (hr : rt a n = true) (hn : 0 < n) (hc : Hid (a - a % pw (n - 1) = c)) :
    Calls Tryd.prog 17 #[.agg #[.int .i64 a, .int .i64 n]] w fun e w' => e = .returned (.tuple #[.agg #[.int .i64 c, .int .i64 (n - 1)], .nilIface]) ∧ Below w.heap.size w w' := by
  have hl := rt_len hr
  have hA := rt_isA hr
  have hL : isL (n - 1) = true := (isL_iff _).2 (by omega)
  have hn0 : (n == 0) = false := by rw [beq_eq_false_iff_ne]; omega
  have hk := chk_nil a n eb es hr
  have hE2 := (hE.alloc (.cells #[.int .i64 a, .int .i64 n] 36)).alloc (.cells #[.int .i64 0, .int .i64 0] 36)
  go_enter Tryd.func17, Tryd.ntmps17
  go_wp2_with fail
  refine (check_any a n et eb es _ hE2).mono ?_
  rw [hk]
  rintro e w1 ⟨rfl, hb1⟩
  obtain ⟨p0, p1, -, -⟩ := box_cells (b := w.heap.size) (x := .int .i64 a) (y := .int .i64 n) hb1 (by rw [World.cell?_alloc_past _ _ _ (by simp), World.cell?_alloc_at _ _ _ _ rfl]; rfl) (by rw [World.cell?_alloc_past _ _ _ (by simp), World.cell?_alloc_at _ _ _ _ rfl]; rfl) (by rw [World.frozen?_alloc_past _ _ _ (by simp), World.frozen?_alloc_at _ _ _ _ rfl]) (by rw [World.frozen?_alloc_past _ _ _ (by simp), World.frozen?_alloc_at _ _ _ _ rfl])
  obtain ⟨r0, r1, s0, s1⟩ := box_cells (b := w.heap.size + 1) (x := .int .i64 0) (y := .int .i64 0) hb1 (by rw [World.cell?_alloc_at _ _ _ _ (by simp)]; rfl) (by rw [World.cell?_alloc_at _ _ _ _ (by simp)]; rfl) (by rw [World.frozen?_alloc_at _ _ _ _ (by simp)]) (by rw [World.frozen?_alloc_at _ _ _ _ (by simp)])
  have HB : Hid (Below w.heap.size w w1) := (((Below.refl _ _).alloc (Nat.le_refl _) _).alloc (by simp) _).trans (hb1.mono (by simp; omega))
  clear hb1 hk hE2
  go_wp2_with fail
  refine (cut_ok a (n - 1) c _ hA hL hc).mono ?_
  rintro e w2 ⟨rfl, hb2⟩
  obtain ⟨r0', r1', s0', s1'⟩ := box_cells hb2 r0 r1 s0 s1
  have HB2 : Hid (Below w.heap.size w w2) := HB.out.trans (hb2.mono HB.out.size)
  clear hb2 r0 r1 s0 s1 p0 p1
  go_wp2
  exact bodyPost_ret (v := .tuple #[.agg #[.int .i64 c, .int .i64 (n - 1)], .nilIface]) (by simp [results, Tryd.results17, go_sem, r0', r1']) rfl ⟨rfl, (HB2.out.setCell (by simp) _).setCell (by simp) _⟩

set_option maxRecDepth 100000 in
set_option maxHeartbeats 1000000 in
theorem up_none (a : Int) (et eb es en : Addr) (w : World) (hE : IpErrs w et eb es) (hN : w.cell? ⟨4, 0, none⟩ = some (.iface 72 (.pointer (some en)))) (hr : rt a 0 = true) :
    Calls Tryd.prog 17 #[.agg #[.int .i64 a, .int .i64 0]] w fun e w' => e = .returned (.tuple #[.agg #[.int .i64 0, .int .i64 0], .iface 72 (.pointer (some en))]) ∧ Below w.heap.size w w' := by
  have hk := chk_nil a 0 eb es hr
  have hE2 := (hE.alloc (.cells #[.int .i64 a, .int .i64 0] 36)).alloc (.cells #[.int .i64 0, .int .i64 0] 36)
  go_enter Tryd.func17, Tryd.ntmps17
  go_wp2_with fail
  refine (check_any a 0 et eb es _ hE2).mono ?_
  rw [hk]
  rintro e w1 ⟨rfl, hb1⟩
  obtain ⟨p0, p1, -, -⟩ := box_cells (b := w.heap.size) (x := .int .i64 a) (y := .int .i64 0) hb1 (by rw [World.cell?_alloc_past _ _ _ (by simp), World.cell?_alloc_at _ _ _ _ rfl]; rfl) (by rw [World.cell?_alloc_past _ _ _ (by simp), World.cell?_alloc_at _ _ _ _ rfl]; rfl) (by rw [World.frozen?_alloc_past _ _ _ (by simp), World.frozen?_alloc_at _ _ _ _ rfl]) (by rw [World.frozen?_alloc_past _ _ _ (by simp), World.frozen?_alloc_at _ _ _ _ rfl])
  obtain ⟨r0, r1, s0, s1⟩ := box_cells (b := w.heap.size + 1) (x := .int .i64 0) (y := .int .i64 0) hb1 (by rw [World.cell?_alloc_at _ _ _ _ (by simp)]; rfl) (by rw [World.cell?_alloc_at _ _ _ _ (by simp)]; rfl) (by rw [World.frozen?_alloc_at _ _ _ _ (by simp)]) (by rw [World.frozen?_alloc_at _ _ _ _ (by simp)])
  have HBW : Below w.heap.size w w1 := (((Below.refl _ _).alloc (Nat.le_refl _) _).alloc (by simp) _).trans (hb1.mono (by simp; omega))
  have gt := cell_kept HBW hN
  have hne : (4 : Nat) ≠ w.heap.size + 1 := by have := cell_lt' hN; simp at this; omega
  have gt' := fun x y => setCell_kept gt hne x y
  have HB : Hid (Below w.heap.size w w1) := HBW
  clear hb1 hk hE2 HBW
  go_wp2
  go_region
  go_wp2
  exact bodyPost_ret (v := .tuple #[.agg #[.int .i64 0, .int .i64 0], .iface 72 (.pointer (some en))]) (by simp [results, Tryd.results17, go_sem, r0, r1]) rfl ⟨rfl, ((HB.out.setCell (by simp) _).setCell (by simp) _).drew⟩
end Go.Proofs.YthehpnhjfnenoaaDoor
