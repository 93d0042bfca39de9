/-
  The document's answer, chapter 1 (herepathref1): PrefixError, CutOf, HasAddr, IsIn, IsAhead, IsLess: what each returns.
-/
import Derived.Test.YthehpnhjfnenoaaDoorRef1
import Derived.RegionTactic
import Derived.Laws.ResultCell
import Derived.Deep.Cut
import Derived.Deep.CutRange
namespace Go.Proofs.YthehpnhjfnenoaaDoor
open Go.RowKit

theorem rSizeOf_at (n s : Int) (hs : Hid (pw n = s)) (hL : isL n = true) (w : World) :
    Calls Tryd.prog 34 #[.int .i64 n] w fun e w' => e = .returned (.int .i64 s) ∧ w' = w := by
  rw [← hs.out]
  exact rSizeOf_any n ((isL_iff n).1 hL).1 ((isL_iff n).1 hL).2 w

set_option linter.unusedSimpArgs false in
set_option maxHeartbeats 2000000 in
theorem rPrefixError_any (a n : Int) (w : World) :
    Calls Tryd.prog 28 #[.agg #[.int .i64 a, .int .i64 n]] w fun e w' => e = .returned (.int .i64 (chkC a n)) ∧ Below w.heap.size w w' := by
  cases hA : isA a with
  | false =>
    have hc : chkC a n = 2 := by unfold chkC; rw [hA]; simp
    rw [hc]; clear hc
    go_enter Tryd.func28, Tryd.ntmps28
    go_wp2_with (go_at_call 57; refine (rIsAddr_any _ _).mono ?_; rintro e w0 ⟨rfl, hw0⟩; subst hw0)
    go_ret
    exact ⟨rfl, below_alloc _ _⟩
  | true =>
    cases hL : isL n with
    | false =>
      have hc : chkC a n = 2 := by unfold chkC; rw [hA, hL]; simp
      rw [hc]; clear hc
      have hd : n < 0 ∨ (0 ≤ n ∧ 32 < n) := by
        have := of_decide_eq_false hL
        omega
      rcases hd with hd | ⟨hd, hd2⟩
      all_goals
        go_enter Tryd.func28, Tryd.ntmps28
        go_wp2_with (go_at_call 57; refine (rIsAddr_any _ _).mono ?_; rintro e w0 ⟨rfl, hw0⟩; subst hw0)
        go_ret
        exact ⟨rfl, below_alloc _ _⟩
    | true =>
      obtain ⟨n0, n1⟩ := (isL_iff n).1 hL
      obtain ⟨a0, a1⟩ := (isA_iff a).1 hA
      have hp := pw_pos n
      have hle := pw_le n n0
      obtain ⟨s, hs⟩ : ∃ s, Hid (pw n = s) := ⟨_, show _ = _ from rfl⟩
      rw [show pw n = s from hs.out] at hp hle
      have hc : chkC a n = if a % s = 0 then 0 else 3 := by unfold chkC; rw [hA, hL, show pw n = s from hs.out]; simp
      obtain ⟨c0, c1⟩ := box_at w (.int .i64 a) (.int .i64 n) 36
      have hne : ¬ s = 0 := by omega
      have hnb : (s == 0) = false := by rw [beq_eq_false_iff_ne]; omega
      have d0 : decide (n < 0) = false := decide_eq_false (by omega)
      have d1 : decide (32 < n) = false := decide_eq_false (by omega)
      obtain ⟨r, hr⟩ : ∃ r, Hid (a % s = r) := ⟨_, show _ = _ from rfl⟩
      rw [hc, show a % s = r from hr.out]; clear hc
      have ht : a.tmod s = r := by rw [Int.tmod_eq_emod_of_nonneg a0]; exact hr.out
      have hb0 : Below w.heap.size w (w.alloc (.cells #[.int .i64 a, .int .i64 n] 36)) := below_alloc _ _
      have hrr : (r = 0 ∧ (r != 0) = false) ∨ (¬ r = 0 ∧ (r != 0) = true) := by
        by_cases h : r = 0
        · exact Or.inl ⟨h, by rw [h]; rfl⟩
        · exact Or.inr ⟨h, by simpa using h⟩
      rcases hrr with ⟨h0, h1⟩ | ⟨h0, h1⟩
      · rw [if_pos h0]; clear h0
        go_enter Tryd.func28, Tryd.ntmps28
        go_wp2_with (go_at_call 57; refine (rIsAddr_any _ _).mono ?_; rintro e w0 ⟨rfl, hw0⟩; subst hw0)
        go_region_held3 (fun w' => w'.cell? ⟨w.heap.size, 0, none⟩ = some (.int .i64 a) ∧ w'.cell? ⟨w.heap.size, 1, none⟩ = some (.int .i64 n) ∧ Below w.heap.size w w') (first | exact hHeld | exact ⟨c0, c1, hb0.drew⟩)
          (first | (go_at_call 34; refine (rSizeOf_at _ _ hs hL _).mono ?_; rintro e w0 ⟨rfl, hw0⟩; subst hw0))
        go_wp2
        go_ret
        exact ⟨rfl, hb0.drew⟩
      · rw [if_neg h0]; clear h0
        go_enter Tryd.func28, Tryd.ntmps28
        go_wp2_with (go_at_call 57; refine (rIsAddr_any _ _).mono ?_; rintro e w0 ⟨rfl, hw0⟩; subst hw0)
        go_region_held3 (fun w' => w'.cell? ⟨w.heap.size, 0, none⟩ = some (.int .i64 a) ∧ w'.cell? ⟨w.heap.size, 1, none⟩ = some (.int .i64 n) ∧ Below w.heap.size w w') (first | exact hHeld | exact ⟨c0, c1, hb0.drew⟩)
          (first | (go_at_call 34; refine (rSizeOf_at _ _ hs hL _).mono ?_; rintro e w0 ⟨rfl, hw0⟩; subst hw0))
        go_wp2
        go_ret
        exact ⟨rfl, hb0.drew⟩

set_option maxRecDepth 100000 in
set_option maxHeartbeats 1000000 in
theorem rCutOf_any (a n : Int) (w : World) :
    Calls Tryd.prog 30 #[.int .i64 a, .int .i64 n] w fun e w' => e = .returned (if isA a = true ∧ isL n = true then .tuple #[.agg #[.int .i64 (a - a % pw n), .int .i64 n], .int .i64 0] else .tuple #[.agg #[.int .i64 0, .int .i64 0], .int .i64 2]) ∧ Below w.heap.size w w' := by
  cases hA : isA a with
  | false =>
    rw [if_neg (by simp)]
    go_enter Tryd.func30, Tryd.ntmps30
    go_wp2_with (go_at_call 57; refine (rIsAddr_any _ _).mono ?_; rintro e w0 ⟨rfl, hw0⟩; subst hw0)
    exact bodyPost_ret (v := .tuple #[.agg #[.int .i64 0, .int .i64 0], .int .i64 2]) (by simp [results, Tryd.results30, go_sem]) rfl ⟨rfl, by first | exact below_alloc _ _ | exact (((below_alloc _ _).setCell (Nat.le_refl _) _).setCell (Nat.le_refl _) _)⟩
  | true =>
    cases hL : isL n with
    | false =>
      rw [if_neg (by simp)]
      have hd : n < 0 ∨ (0 ≤ n ∧ 32 < n) := by
        have := of_decide_eq_false hL
        omega
      rcases hd with hd | ⟨hd, hd2⟩
      all_goals
        go_enter Tryd.func30, Tryd.ntmps30
        go_wp2_with (go_at_call 57; refine (rIsAddr_any _ _).mono ?_; rintro e w0 ⟨rfl, hw0⟩; subst hw0)
        exact bodyPost_ret (v := .tuple #[.agg #[.int .i64 0, .int .i64 0], .int .i64 2]) (by simp [results, Tryd.results30, go_sem]) rfl ⟨rfl, by first | exact below_alloc _ _ | exact (((below_alloc _ _).setCell (Nat.le_refl _) _).setCell (Nat.le_refl _) _)⟩
    | true =>
      rw [if_pos (by simp)]
      obtain ⟨n0, n1⟩ := (isL_iff n).1 hL
      obtain ⟨a0, a1⟩ := (isA_iff a).1 hA
      have hp := pw_pos n
      have hle := pw_le n n0
      obtain ⟨s, hs⟩ : ∃ s, Hid (pw n = s) := ⟨_, show _ = _ from rfl⟩
      rw [show pw n = s from hs.out] at hp hle ⊢
      have hne : ¬ s = 0 := by omega
      have hnb : (s == 0) = false := by rw [beq_eq_false_iff_ne]; omega
      have d0 : decide (n < 0) = false := decide_eq_false (by omega)
      have d1 : decide (32 < n) = false := decide_eq_false (by omega)
      have m0 := Int.emod_nonneg a (show s ≠ 0 by omega)
      have m1 := Int.emod_lt_of_pos a (show 0 < s by omega)
      obtain ⟨r, hr⟩ : ∃ r, Hid (a % s = r) := ⟨_, show _ = _ from rfl⟩
      have ht : a.tmod s = r := by rw [Int.tmod_eq_emod_of_nonneg a0]; exact hr.out
      rw [show a % s = r from hr.out] at m0 m1 ⊢
      go_enter Tryd.func30, Tryd.ntmps30
      go_wp2_with (first | (go_at_call 57; refine (rIsAddr_any _ _).mono ?_; rintro e w0 ⟨rfl, hw0⟩; subst hw0) | (go_at_call 34; refine (rSizeOf_at _ _ hs hL _).mono ?_; rintro e w0 ⟨rfl, hw0⟩; subst hw0))
      exact bodyPost_ret (v := .tuple #[.agg #[.int .i64 (a - r), .int .i64 n], .int .i64 0]) (by simp [results, Tryd.results30, go_sem]) rfl ⟨rfl, by first | exact below_alloc _ _ | exact (((below_alloc _ _).setCell (Nat.le_refl _) _).setCell (Nat.le_refl _) _)⟩
theorem rIsAhead_any (aa an ba bn : Int) (w : World) :
    Calls Tryd.prog 59 #[.agg #[.int .i64 aa, .int .i64 an], .agg #[.int .i64 ba, .int .i64 bn]] w fun e w' => e = .returned (.bool (decide (aa < ba) || (aa == ba && decide (an < bn)))) ∧ Below w.heap.size w w' := by
  have hb : Below w.heap.size w ((w.alloc (.cells #[.int .i64 aa, .int .i64 an] 36)).alloc (.cells #[.int .i64 ba, .int .i64 bn] 36)) := ((Below.refl _ _).alloc (Nat.le_refl _) _).alloc (by simp) _
  by_cases h : aa = ba
  · subst h
    go_enter Tryd.func59, Tryd.ntmps59
    go_wp2
    go_ret
    exact ⟨by simp, hb⟩
  · have hb2 : (aa == ba) = false := by simpa using h
    go_enter Tryd.func59, Tryd.ntmps59
    go_wp2
    go_ret
    exact ⟨by simp [hb2], hb⟩
end Go.Proofs.YthehpnhjfnenoaaDoor
