/-
  The walk of herepathlaw1.Names: in whatever memory in which package api's nine errors and errors' handle lie as they were laid, the call returns true, and nothing that was there has turned.
-/
import Derived.Test.YthehpnhjfnenoaaDoorCode
import Derived.BigQuiet
import Derived.Deep.QuietTactic
import Derived.WalkSmall
namespace Go.Proofs.YthehpnhjfnenoaaDoor
open Go.RowKit Go.Extern.Stop Go.Stop Go.Extern

set_option maxRecDepth 100000 in
set_option maxHeartbeats 1000000 in
/-- SameInts of two slices that hold the same numbers. -/
theorem sameInts_same (b1 b2 n : Nat) (c : Nat → Int) (w : World) (hn : n ≤ 1000000) (h1 : ∀ j, j < n → w.cell? ⟨b1, j, none⟩ = some (.int .i64 (c j))) (h2 : ∀ j, j < n → w.cell? ⟨b2, j, none⟩ = some (.int .i64 (c j))) :
    Calls Tryd.prog 8 #[.slice (some ⟨b1, 0, none⟩) n n, .slice (some ⟨b2, 0, none⟩) n n] w fun ev w' => ev = .returned (.bool true) ∧ Below w.heap.size w w' := by
  have H1 : Hid (∀ j, j < n → w.cell? ⟨b1, j, none⟩ = some (.int .i64 (c j))) := h1
  have H2 : Hid (∀ j, j < n → w.cell? ⟨b2, j, none⟩ = some (.int .i64 (c j))) := h2
  clear h1 h2
  go_enter Tryd.func8, Tryd.ntmps8
  go_wp2
  go_loopw [5] (fun t wx => ∃ i m : Nat, i ≤ n ∧ t = .int .i64 i ∧ wx = w.drewN m) (fun t _ => n - (intOf t).toNat)
  case atStart => exact ⟨0, 0, Nat.zero_le _, rfl, rfl⟩
  case round =>
    obtain ⟨i, m, hi, rfl, rfl⟩ := hrel
    by_cases hlt : i < n
    · have g1 := H1.out i hlt
      have g2 := H2.out i hlt
      go_wp2
      go_quiet (fail)
      go_wp2
      go_roundw
      case rel => exact ⟨i + 1, m + nq, by omega, by go_num, rfl⟩
      case measure => simp [intOf]; omega
    · go_wp2
      go_ret
      exact ⟨rfl, below_drewN (Below.refl _ _) _⟩

theorem heap_alloc_last (w : World) (o : Obj) : (w.alloc o).heap[w.heap.size]? = some o := by
  show (w.heap.push o)[w.heap.size]? = _
  simp

def nums : List Int := [1000, 12, 8, 9999, 1000, 60, 10, 6, 8000, 3, 2000, 80, 16]
theorem nums_cell {w : World} (j : Nat) (hj : j < 13) (b : Nat) (hb : b = w.heap.size) (c : Array Value) (hc : c = (nums.map (Value.int .i64)).toArray) (t : TypeId) :
    (w.alloc (.cells c t)).cell? ⟨b, j, none⟩ = some (.int .i64 (nums.getD j 0)) := by
  subst hc
  rw [World.cell?_alloc_at _ _ _ _ hb]
  have : j = 0 ∨ j = 1 ∨ j = 2 ∨ j = 3 ∨ j = 4 ∨ j = 5 ∨ j = 6 ∨ j = 7 ∨ j = 8 ∨ j = 9 ∨ j = 10 ∨ j = 11 ∨ j = 12 := by omega
  rcases this with rfl | rfl | rfl | rfl | rfl | rfl | rfl | rfl | rfl | rfl | rfl | rfl | rfl <;> rfl

set_option maxRecDepth 100000 in
set_option maxHeartbeats 4000000 in
theorem names_any (a : Nat → Addr) (w : World) (h : ErrsLaid w a) :
    Calls Tryd.prog 3 #[] w fun ev w' => ev = .returned (.bool true) ∧ Below w.heap.size w w' := by
  have HL : Hid (ErrsLaid w a) := h
  clear h
  have HS : Hid (Calls Tryd.prog 8 #[.slice (some ⟨w.heap.size, 0, none⟩) 13 13, .slice (some ⟨w.heap.size + 1, 0, none⟩) 13 13]
      ((w.alloc (.cells #[.int .i64 1000, .int .i64 12, .int .i64 8, .int .i64 9999, .int .i64 1000, .int .i64 60, .int .i64 10, .int .i64 6, .int .i64 8000, .int .i64 3, .int .i64 2000, .int .i64 80, .int .i64 16] 3)).alloc (.cells #[.int .i64 1000, .int .i64 12, .int .i64 8, .int .i64 9999, .int .i64 1000, .int .i64 60, .int .i64 10, .int .i64 6, .int .i64 8000, .int .i64 3, .int .i64 2000, .int .i64 80, .int .i64 16] 3))
      fun ev w' => ev = .returned (.bool true) ∧ Below w.heap.size w w') := by
    refine (sameInts_same w.heap.size (w.heap.size + 1) 13 (fun j => nums.getD j 0) _ (by omega) (fun j hj => ?_) (fun j hj => ?_)).mono ?_
    · rw [World.cell?_alloc_past _ _ _ (by simp)]
      exact nums_cell j hj _ rfl _ rfl _
    · exact nums_cell j hj _ (by simp) _ rfl _
    · rintro e w' ⟨rfl, hb⟩
      exact ⟨rfl, (((Below.refl _ _).alloc (Nat.le_refl _) _).alloc (by simp) _).trans (hb.mono (by simp; omega))⟩
  go_enter Tryd.func3, Tryd.ntmps3
  go_wp2_with (go_at_call 8; refine HS.out.mono ?_; rintro ev w1 ⟨rfl, hb1⟩; obtain ⟨d0, d1, d2, d3, d4, d5, d6, d7, d8, -, -, -⟩ := HL.out.below hb1)
  go_loopw [4] (fun t wx => ∃ i : Nat, i ≤ 9 ∧ t = .int .i64 i ∧ Below w.heap.size w wx ∧ w1.heap.size < wx.heap.size ∧ ∀ j, j < 9 → wx.cell? ⟨w1.heap.size, j, none⟩ = some (.iface 72 (.pointer (some (a j))))) (fun t _ => 9 - (intOf t).toNat)
  case atStart =>
    refine ⟨0, Nat.zero_le _, rfl, hb1.alloc hb1.size _, by simp, ?_⟩
    intro j hj
    rw [World.cell?_alloc_at _ _ _ _ rfl]
    have : j = 0 ∨ j = 1 ∨ j = 2 ∨ j = 3 ∨ j = 4 ∨ j = 5 ∨ j = 6 ∨ j = 7 ∨ j = 8 := by omega
    rcases this with rfl | rfl | rfl | rfl | rfl | rfl | rfl | rfl | rfl <;> rfl
  case round =>
    obtain ⟨i, hi, rfl, hbx, hzx, hcx⟩ := hrel
    have HB : Hid (Below w.heap.size w wr) := hbx
    have HX : Hid (∀ j, j < 9 → wr.cell? ⟨w1.heap.size, j, none⟩ = some (.iface 72 (.pointer (some (a j))))) := hcx
    clear hbx hcx d0 d1 d2 d3 d4 d5 d6 d7 d8
    by_cases hi9 : i < 9
    · have hc := HX.out i hi9
      have HA : Hid (ErrsLaid (wr.alloc (.cells #[.int .i64 7, .iface 72 (.pointer (some (a i)))] 31)) a) :=
        (HL.out.below HB.out).below ((Below.refl _ _).alloc (Nat.le_refl _) _)
      have HF : Hid (Calls Tryd.prog 9 #[.iface 29 (.pointer (some ⟨wr.heap.size, 0, none⟩))] (wr.alloc (.cells #[.int .i64 7, .iface 72 (.pointer (some (a i)))] 31))
          fun ev w' => ev = .returned (.tuple #[.int .i64 ((i : Int) + 1), .int .i64 7]) ∧ Below wr.heap.size wr w' ∧ w'.cell? ⟨w1.heap.size, i, none⟩ = some (.iface 72 (.pointer (some (a i))))) := by
        have := code_fault wr.heap.size 7 (a i) i a _ HA.out (by omega) (HA.out.row i hi9) (by rw [World.cell?_alloc_at _ _ _ _ rfl]; rfl) (by rw [World.cell?_alloc_at _ _ _ _ rfl]; rfl) (fun j hj => HA.out.apart i j hi9 (by omega) (by omega)) (fun _ => rfl)
        rw [if_pos hi9] at this
        refine this.mono ?_
        rintro ev w' ⟨rfl, hb⟩
        have hb' : Below wr.heap.size wr w' := ((Below.refl _ _).alloc (Nat.le_refl _) _).trans (hb.mono (by simp))
        exact ⟨rfl, hb', cell_below hb' hc hzx⟩
      go_wp2_with (first | (go_at_call 9; refine HF.out.mono ?_; rintro ev w2 ⟨rfl, hb2, hc2⟩) | (go_at_call 10; refine (coded_plain i _ a _ (((HL.out.below HB.out)).below hb2) hi9).mono ?_; rintro ev w3 ⟨rfl, hb3⟩))
      have hb3' : Below wr.heap.size wr w3 := hb2.trans (hb3.mono hb2.size)
      go_roundw
      case rel => exact ⟨i + 1, by omega, by go_num, HB.out.trans (hb3'.mono HB.out.size), Nat.lt_of_lt_of_le hzx hb3'.size, fun j hj => cell_below hb3' (HX.out j hj) hzx⟩
      case measure => simp [intOf]; omega
    · obtain rfl : i = 9 := by omega
      have HA : Hid (ErrsLaid (wr.alloc (.cells #[.string ⟨#[97, 110, 111, 116, 104, 101, 114, 32, 111, 110, 101]⟩] 74)) a) :=
        (HL.out.below HB.out).below ((Below.refl _ _).alloc (Nat.le_refl _) _)
      have HF : Hid (Calls Tryd.prog 9 #[.iface 72 (.pointer (some ⟨wr.heap.size, 0, none⟩))] (wr.alloc (.cells #[.string ⟨#[97, 110, 111, 116, 104, 101, 114, 32, 111, 110, 101]⟩] 74))
          fun ev w' => ev = .returned (.tuple #[.int .i64 (-1), .int .i64 (-1)]) ∧ Below w.heap.size w w') := by
        have := code_plain ⟨wr.heap.size, 0, none⟩ 9 a _ HA.out (Nat.le_refl _) ⟨#[.string ⟨#[97, 110, 111, 116, 104, 101, 114, 32, 111, 110, 101]⟩], 74, heap_alloc_last _ _⟩ (fun j hj e => by
          obtain ⟨c, t, hr⟩ := (HL.out.below HB.out).row j hj
          have := row_lt hr
          rw [← e] at this
          simp at this) (fun h => absurd h (by omega))
        rw [if_neg (by omega)] at this
        refine this.mono ?_
        rintro ev w' ⟨rfl, hb⟩
        exact ⟨rfl, (HB.out.alloc HB.out.size _).trans (hb.mono (by have := HB.out.size; simp; omega))⟩
      go_wp2_with (first | (go_at_call 11; refine (errors_new _ _).mono ?_; rintro ev w2 ⟨rfl, rfl⟩) | (go_at_call 9; refine HF.out.mono ?_; rintro ev w2 ⟨rfl, hb2⟩) | (go_at_call 10; refine (coded_nil 0 _).mono ?_; rintro ev w3 ⟨rfl, rfl⟩))
      go_ret
      exact ⟨rfl, hb2⟩
end Go.Proofs.YthehpnhjfnenoaaDoor
