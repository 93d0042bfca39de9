/-
  ip.Halves: what it returns at a right prefix.
-/
import Derived.Test.YthehpnhjfnenoaaDoorIp3
namespace Go.Proofs.YthehpnhjfnenoaaDoor
open Go.RowKit

set_option maxRecDepth 100000 in
set_option maxHeartbeats 2000000 in
theorem halves_ok (a n : Int) (et eb es : Addr) (w : World) (hE : IpErrs w et eb es) (hr : rt a n = true) (hn : n < 32) :
    Calls Tryd.prog 14 #[.agg #[.int .i64 a, .int .i64 n]] w fun e w' => e = .returned (.tuple #[.agg #[.int .i64 a, .int .i64 (n + 1)], .agg #[.int .i64 (a + pw (n + 1)), .int .i64 (n + 1)], .nilIface]) ∧ Below w.heap.size w w' := by
  have hl := rt_len hr
  obtain ⟨⟨a0, a1⟩, ⟨n0, n1⟩, hm⟩ := (rt_iff a n).1 hr
  have hn32 : (n == 32) = false := by rw [beq_eq_false_iff_ne]; omega
  have hk := chk_nil a n eb es hr
  have hE2 := ((hE.alloc (.cells #[.int .i64 a, .int .i64 n] 36)).alloc (.cells #[.int .i64 0, .int .i64 0] 36)).alloc (.cells #[.int .i64 0, .int .i64 0] 36)
  obtain ⟨nx, hnx⟩ : ∃ z, Hid (wrap64 (2 ^ (32 - (n + 1)).toNat) = z) := ⟨_, show _ = _ from rfl⟩
  have hnx' : nx = pw (n + 1) := by
    have h2 := pw_pos (n + 1)
    have h3 := pw_le (n + 1) (by omega)
    rw [← hnx.out, show (2 : Int) ^ (32 - (n + 1)).toNat = pw (n + 1) from rfl, wrap64_id _ (by omega) (by omega)]
  obtain ⟨hi, hhi⟩ : ∃ z, Hid (bits .or .i64 a nx = z) := ⟨_, show _ = _ from rfl⟩
  have HH : Hid (hi = a + pw (n + 1)) := by rw [← hhi.out, hnx']; exact or_next a n a0 a1 n0 hn hm
  have q1 : wrap64 (2 ^ (32 - (n + 1)).toNat) = nx := hnx.out
  have q2 : bits .or .i64 a nx = hi := hhi.out
  rw [← HH.out]
  clear hnx' hm
  go_enter Tryd.func14, Tryd.ntmps14
  go_wp2_with fail
  refine (check_any a n et eb es _ hE2).mono ?_
  rw [hk]
  rintro e w1 ⟨rfl, hb1⟩
  obtain ⟨p0, p1, -, -⟩ := box_cells (b := w.heap.size) (x := .int .i64 a) (y := .int .i64 n) hb1 (by rw [World.cell?_alloc_past _ _ _ (by simp; omega), World.cell?_alloc_past _ _ _ (by simp), World.cell?_alloc_at _ _ _ _ rfl]; rfl) (by rw [World.cell?_alloc_past _ _ _ (by simp; omega), World.cell?_alloc_past _ _ _ (by simp), World.cell?_alloc_at _ _ _ _ rfl]; rfl) (by rw [World.frozen?_alloc_past _ _ _ (by simp; omega), World.frozen?_alloc_past _ _ _ (by simp), World.frozen?_alloc_at _ _ _ _ rfl]) (by rw [World.frozen?_alloc_past _ _ _ (by simp; omega), World.frozen?_alloc_past _ _ _ (by simp), World.frozen?_alloc_at _ _ _ _ rfl])
  obtain ⟨r0, r1, s0, s1⟩ := box_cells (b := w.heap.size + 1) (x := .int .i64 0) (y := .int .i64 0) hb1 (by rw [World.cell?_alloc_past _ _ _ (by simp), World.cell?_alloc_at _ _ _ _ (by simp)]; rfl) (by rw [World.cell?_alloc_past _ _ _ (by simp), World.cell?_alloc_at _ _ _ _ (by simp)]; rfl) (by rw [World.frozen?_alloc_past _ _ _ (by simp), World.frozen?_alloc_at _ _ _ _ (by simp)]) (by rw [World.frozen?_alloc_past _ _ _ (by simp), World.frozen?_alloc_at _ _ _ _ (by simp)])
  obtain ⟨t0, t1, u0, u1⟩ := box_cells (b := w.heap.size + 1 + 1) (x := .int .i64 0) (y := .int .i64 0) hb1 (by rw [World.cell?_alloc_at _ _ _ _ (by simp)]; rfl) (by rw [World.cell?_alloc_at _ _ _ _ (by simp)]; rfl) (by rw [World.frozen?_alloc_at _ _ _ _ (by simp)]) (by rw [World.frozen?_alloc_at _ _ _ _ (by simp)])
  have HB : Hid (Below w.heap.size w w1) := ((((Below.refl _ _).alloc (Nat.le_refl _) _).alloc (by simp) _).alloc (by simp; omega) _).trans (hb1.mono (by simp; omega))
  clear hb1 hk hE2
  go_wp2
  go_region
  go_wp2
  exact bodyPost_ret (v := .tuple #[.agg #[.int .i64 a, .int .i64 (n + 1)], .agg #[.int .i64 hi, .int .i64 (n + 1)], .nilIface]) (by simp [results, Tryd.results14, go_sem, r0, r1, t0, t1]) rfl ⟨rfl, ((((HB.out.setCell (by simp) _).setCell (by simp) _).setCell (by simp; omega) _).setCell (by simp; omega) _).drew⟩

set_option maxRecDepth 100000 in
set_option maxHeartbeats 2000000 in
theorem halves_none (a : Int) (et eb es en : Addr) (w : World) (hE : IpErrs w et eb es) (hN : w.cell? ⟨4, 0, none⟩ = some (.iface 72 (.pointer (some en)))) (hr : rt a 32 = true) :
    Calls Tryd.prog 14 #[.agg #[.int .i64 a, .int .i64 32]] w fun e w' => e = .returned (.tuple #[.agg #[.int .i64 0, .int .i64 0], .agg #[.int .i64 0, .int .i64 0], .iface 72 (.pointer (some en))]) ∧ Below w.heap.size w w' := by
  have hk := chk_nil a 32 eb es hr
  have hE2 := ((hE.alloc (.cells #[.int .i64 a, .int .i64 32] 36)).alloc (.cells #[.int .i64 0, .int .i64 0] 36)).alloc (.cells #[.int .i64 0, .int .i64 0] 36)
  go_enter Tryd.func14, Tryd.ntmps14
  go_wp2_with fail
  refine (check_any a 32 et eb es _ hE2).mono ?_
  rw [hk]
  rintro e w1 ⟨rfl, hb1⟩
  obtain ⟨p0, p1, -, -⟩ := box_cells (b := w.heap.size) (x := .int .i64 a) (y := .int .i64 32) hb1 (by rw [World.cell?_alloc_past _ _ _ (by simp; omega), World.cell?_alloc_past _ _ _ (by simp), World.cell?_alloc_at _ _ _ _ rfl]; rfl) (by rw [World.cell?_alloc_past _ _ _ (by simp; omega), World.cell?_alloc_past _ _ _ (by simp), World.cell?_alloc_at _ _ _ _ rfl]; rfl) (by rw [World.frozen?_alloc_past _ _ _ (by simp; omega), World.frozen?_alloc_past _ _ _ (by simp), World.frozen?_alloc_at _ _ _ _ rfl]) (by rw [World.frozen?_alloc_past _ _ _ (by simp; omega), World.frozen?_alloc_past _ _ _ (by simp), World.frozen?_alloc_at _ _ _ _ rfl])
  obtain ⟨r0, r1, s0, s1⟩ := box_cells (b := w.heap.size + 1) (x := .int .i64 0) (y := .int .i64 0) hb1 (by rw [World.cell?_alloc_past _ _ _ (by simp), World.cell?_alloc_at _ _ _ _ (by simp)]; rfl) (by rw [World.cell?_alloc_past _ _ _ (by simp), World.cell?_alloc_at _ _ _ _ (by simp)]; rfl) (by rw [World.frozen?_alloc_past _ _ _ (by simp), World.frozen?_alloc_at _ _ _ _ (by simp)]) (by rw [World.frozen?_alloc_past _ _ _ (by simp), World.frozen?_alloc_at _ _ _ _ (by simp)])
  obtain ⟨t0, t1, u0, u1⟩ := box_cells (b := w.heap.size + 1 + 1) (x := .int .i64 0) (y := .int .i64 0) hb1 (by rw [World.cell?_alloc_at _ _ _ _ (by simp)]; rfl) (by rw [World.cell?_alloc_at _ _ _ _ (by simp)]; rfl) (by rw [World.frozen?_alloc_at _ _ _ _ (by simp)]) (by rw [World.frozen?_alloc_at _ _ _ _ (by simp)])
  have HBW : Below w.heap.size w w1 := ((((Below.refl _ _).alloc (Nat.le_refl _) _).alloc (by simp) _).alloc (by simp; omega) _).trans (hb1.mono (by simp; omega))
  have gt := cell_kept HBW hN
  have hlt := cell_lt' hN
  have hne : (4 : Nat) ≠ w.heap.size + 1 := by simp at hlt; omega
  have hne2 : (4 : Nat) ≠ w.heap.size + 1 + 1 := by simp at hlt; omega
  have gt1 := fun x y => setCell_kept gt hne x y
  have gt2 := fun x y => setCell_kept gt hne2 x y
  have gt3 := fun x y x' y' => setCell_kept (setCell_kept gt hne x y) hne2 x' y'
  have HB : Hid (Below w.heap.size w w1) := HBW
  clear hb1 hk hE2 HBW hlt
  go_wp2
  go_region
  go_wp2
  exact bodyPost_ret (v := .tuple #[.agg #[.int .i64 0, .int .i64 0], .agg #[.int .i64 0, .int .i64 0], .iface 72 (.pointer (some en))]) (by simp [results, Tryd.results14, go_sem, r0, r1, t0, t1]) rfl ⟨rfl, ((((HB.out.setCell (by simp) _).setCell (by simp) _).setCell (by simp; omega) _).setCell (by simp; omega) _).drew⟩
end Go.Proofs.YthehpnhjfnenoaaDoor
