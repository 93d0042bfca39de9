/-
  The document's answer, chapter 1 (herepathref1): IsAddr, SizeOf, PrefixError, CutOf, HasAddr, IsIn, IsAhead, IsLess: what each returns.
-/
import Derived.Test.YthehpnhjfnenoaaDoorRefBase
import Derived.Test.YthehpnhjfnenoaaDoorOrderMath
import Derived.Test.YthehpnhjfnenoaaDoorHalvesMath
namespace Go.Proofs.YthehpnhjfnenoaaDoor
open Go.RowKit

theorem rIsAddr_any (a : Int) (w : World) :
    Calls Tryd.prog 57 #[.int .i64 a] w fun e w' => e = .returned (.bool (isA a)) ∧ w' = w := by
  by_cases h0 : 0 ≤ a
  · by_cases h1 : a < 4294967296
    · rw [show isA a = true from (isA_iff a).2 ⟨h0, h1⟩]
      go_enter Tryd.func57, Tryd.ntmps57
      go_wp2
      go_ret
      exact ⟨rfl, rfl⟩
    · rw [show isA a = false from decide_eq_false (by omega)]
      have hd : decide (a < 4294967296) = false := decide_eq_false h1
      go_enter Tryd.func57, Tryd.ntmps57
      go_wp2
      go_ret
      exact ⟨rfl, rfl⟩
  · rw [show isA a = false from decide_eq_false (by omega)]
    have hd : decide (0 ≤ a) = false := decide_eq_false h0
    go_enter Tryd.func57, Tryd.ntmps57
    go_wp2
    go_ret
    exact ⟨rfl, rfl⟩

theorem pw_split (n i : Int) (h0 : n ≤ i) (h1 : i ≤ 32) : pw n = 2 ^ (i - n).toNat * pw i := by
  unfold pw
  rw [← Int.pow_add]
  congr 1
  omega
set_option maxHeartbeats 1000000 in
/-- At a length from 0 to 32. -/
theorem rSizeOf_any (n : Int) (h0 : 0 ≤ n) (h1 : n ≤ 32) (w : World) :
    Calls Tryd.prog 34 #[.int .i64 n] w fun e w' => e = .returned (.int .i64 (pw n)) ∧ w' = w := by
  go_enter Tryd.func34, Tryd.ntmps34
  go_wp2
  go_loop [3, 4] (fun s i => ∃ k v : Int, n ≤ k ∧ k ≤ 32 ∧ i = .int .i64 k ∧ s = .int .i64 v ∧ v * pw k = pw n ∧ 1 ≤ v) (fun _ i => (32 - intOf i).toNat)
  case atStart => exact ⟨n, 1, by omega, h1, rfl, rfl, by omega, by omega⟩
  case round =>
    obtain ⟨k, v, hk0, hk1, rfl, rfl, hv, hv1⟩ := hrel
    have HV : Hid (v * pw k = pw n) := hv
    clear hv
    by_cases hlt : k < 32
    · have hs := pw_step k hlt
      have hb : v ≤ 4294967296 := by
        have h2 := pw_pos k
        have h3 := pw_le n h0
        have h4 := HV.out
        have h5 : v * 1 ≤ v * pw k := Int.mul_le_mul_of_nonneg_left (by omega) (by omega)
        omega
      have HS : Hid (pw k = 2 * pw (k + 1)) := hs
      clear hs
      go_wp2
      go_round
      case rel =>
        refine ⟨k + 1, 2 * v, by omega, by omega, by go_num, by go_num, ?_, by omega⟩
        rw [← HV.out, HS.out]
        rw [Int.mul_comm 2 v, Int.mul_assoc]
      case measure => simp [intOf]; omega
    · obtain rfl : k = 32 := by omega
      go_wp2
      go_ret
      have : pw n = v := by rw [← HV.out, pw_32, Int.mul_one]
      rw [this]
      exact ⟨rfl, rfl⟩
end Go.Proofs.YthehpnhjfnenoaaDoor
