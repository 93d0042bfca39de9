/-
  math/bits.TrailingZeros: how many zeros a number of addresses ends with, off the library's own table.
-/
import Derived.Test.YthehpnhjfnenoaaDoorSet1
import Derived.Lib.LaidTab
import Derived.Lib.SmallJoins
namespace Go.Proofs.YthehpnhjfnenoaaDoor
open Go.RowKit

theorem low_bit (k j n : Nat) (hx : 2 ^ k * (2 * j + 1) < 2 ^ n) : (2 ^ k * (2 * j + 1)) &&& (2 ^ n - 2 ^ k * (2 * j + 1)) = 2 ^ k := by
  have hp := Nat.two_pow_pos k
  have e0 : 2 ^ k * (2 * j + 1) = 2 ^ k * (2 * j) + 2 ^ k := by rw [Nat.mul_add, Nat.mul_one]
  have e1 : 2 ^ k * (2 * j + 1) - 1 = 2 ^ k * (2 * j) + (2 ^ k - 1) := by omega
  have e2 : 2 ^ n - 2 ^ k * (2 * j + 1) = 2 ^ n - ((2 ^ k * (2 * j) + (2 ^ k - 1)) + 1) := by omega
  apply Nat.eq_of_testBit_eq
  intro i
  rw [Nat.testBit_and, e2, Nat.testBit_two_pow_sub_succ (by omega), Nat.testBit_two_pow_mul_add _ (by omega), Nat.testBit_two_pow]
  have hm : (2 ^ k * (2 * j + 1)).testBit i = (decide (k ≤ i) && (2 * j + 1).testBit (i - k)) := by
    rw [Nat.mul_comm, Nat.testBit_mul_two_pow]
  rw [hm]
  by_cases h1 : i < k
  · simp [h1]; omega
  · by_cases h2 : i = k
    · subst h2
      have hin : i < n := by
        rcases Nat.lt_or_ge i n with h | h
        · exact h
        · have := Nat.pow_le_pow_right (n := 2) (by decide) h
          have : 2 ^ i * 1 ≤ 2 ^ i * (2 * j + 1) := Nat.mul_le_mul_left _ (by omega)
          omega
      simp [hin]
    · have h3 : ∃ m, i - k = m + 1 := ⟨i - k - 1, by omega⟩
      obtain ⟨m, hm⟩ := h3
      rw [hm, if_neg h1]
      have o1 : (2 * j + 1).testBit (m + 1) = j.testBit m := by rw [Nat.testBit_succ]; congr 1; omega
      have o2 : (2 * j).testBit (m + 1) = j.testBit m := by rw [Nat.testBit_succ]; congr 1; omega
      rw [o1, o2]
      cases j.testBit m <;> simp <;> omega
/-- a number that is not 0 is an odd one, doubled k times. -/
theorem odd_part (x : Nat) (h : 0 < x) : ∃ k j, x = 2 ^ k * (2 * j + 1) := by
  induction x using Nat.strongRecOn with
  | ind x ih =>
    by_cases he : x % 2 = 0
    · obtain ⟨k, j, e⟩ := ih (x / 2) (by omega) (by omega)
      exact ⟨k + 1, j, by rw [Nat.pow_succ, Nat.mul_right_comm, ← e]; omega⟩
    · exact ⟨0, x / 2, by simp; omega⟩
def dbTab : List Int := [0, 1, 56, 2, 57, 49, 28, 3, 61, 58, 42, 50, 38, 29, 17, 4, 62, 47, 59, 36, 45, 43, 51, 22, 53, 39, 33, 30, 24, 18, 12, 5, 63, 55, 48, 27, 60, 41, 37, 16, 46, 35, 44, 21, 52, 32, 23, 11, 54, 26, 40, 15, 34, 20, 31, 10, 25, 14, 19, 9, 13, 8, 7, 6]
def dbAt (k : Nat) : Nat := 2 ^ k * 285870213051353865 % 18446744073709551616 / 288230376151711744
theorem db_good : ∀ k, k < 64 → dbAt k < 64 ∧ dbTab[dbAt k]? = some (k : Int) := by
  have h : (List.range 64).all (fun k => decide (dbAt k < 64) && decide (dbTab[dbAt k]? = some (k : Int))) = true := by decide +kernel
  intro k hk
  have := List.all_eq_true.1 h k (List.mem_range.2 hk)
  simpa using this
theorem dbNamed : Tryd.prog.globalNamed "math/bits.deBruijn64tab" = some 13 := by kernel_rfl

theorem wrapU (n : Int) : IntKind.u64.wrap n = n % 18446744073709551616 := by simp [IntKind.wrap, IntKind.bits, IntKind.signed]
theorem bits_and_nat (a b : Nat) (ha : a < 18446744073709551616) (hb : b < 18446744073709551616) : bits .and .u64 (a : Int) (b : Int) = ((a &&& b : Nat) : Int) := by
  have h : a &&& b < 2 ^ 64 := Nat.and_lt_two_pow _ (by omega)
  show IntKind.u64.wrap ((BitVec.ofInt 64 (a : Int) &&& BitVec.ofInt 64 (b : Int)).toNat : Int) = _
  rw [BitVec.toNat_and, BitVec.ofInt_natCast, BitVec.ofInt_natCast, BitVec.toNat_ofNat, BitVec.toNat_ofNat, Nat.mod_eq_of_lt (by omega), Nat.mod_eq_of_lt (by omega), wrapU]
  omega
theorem tz_bits (k j x : Nat) (hX : x = 2 ^ k * (2 * j + 1)) (hx : x < 18446744073709551616) : bits .and .u64 (x : Int) (IntKind.u64.wrap (-(x : Int))) = ((2 ^ k : Nat) : Int) := by
  have hp := Nat.two_pow_pos k
  have h0 : 0 < x := by rw [hX]; exact Nat.mul_pos hp (by omega)
  have e : IntKind.u64.wrap (-(x : Int)) = ((18446744073709551616 - x : Nat) : Int) := by rw [wrapU]; omega
  rw [e, bits_and_nat _ _ hx (by omega)]
  have := low_bit k j 64 (by rw [← hX]; omega)
  rw [← hX] at this
  rw [← this]
theorem pow_lt_of (k j x n : Nat) (hX : x = 2 ^ k * (2 * j + 1)) (hx : x < 2 ^ n) : k < n := by
  rcases Nat.lt_or_ge k n with h | h
  · exact h
  · have := Nat.pow_le_pow_right (n := 2) (by decide) h
    have h2 : 2 ^ k * 1 ≤ 2 ^ k * (2 * j + 1) := Nat.mul_le_mul_left _ (by omega)
    omega

set_option linter.unusedVariables false in
set_option maxRecDepth 100000 in
set_option maxHeartbeats 1000000 in
theorem tz64_core (x ix k : Nat) (pk : Int) (w : World) (hx : x < 18446744073709551616) (hk : k < 64) (hA : bits .and .u64 (x : Int) (IntKind.u64.wrap (-(x : Int))) = pk) (h0 : ((x : Int) == 0) = false)
    (hM : IntKind.u64.wrap (pk * 285870213051353865) / 288230376151711744 = (ix : Int)) (hd1 : ix < 64) (hc : w.cell? ⟨13, ix, none⟩ = some (.int .u8 (k : Int))) :
    Calls Tryd.prog 121 #[.int .u64 (x : Int)] w fun e w' => e = .returned (.int .i64 k) ∧ w' = w := by
  have hw : IntKind.i64.wrap (k : Int) = (k : Int) := wrapN _ (by omega)
  go_enter Tryd.func121, Tryd.ntmps121
  go_wp2
  go_ret
  exact ⟨rfl, rfl⟩
theorem dbLen : dbTab.length = 64 := rfl
theorem db_index (k : Nat) : IntKind.u64.wrap (((2 ^ k : Nat) : Int) * 285870213051353865) / 288230376151711744 = ((dbAt k : Nat) : Int) := by
  rw [wrapU]; unfold dbAt; omega
theorem tz64_any (k j x : Nat) (w : World) (hX : x = 2 ^ k * (2 * j + 1)) (hx : x < 18446744073709551616) (hT : Lib.TabIs Tryd.prog w "math/bits.deBruijn64tab" .u8 dbTab) :
    Calls Tryd.prog 121 #[.int .u64 (x : Int)] w fun e w' => e = .returned (.int .i64 k) ∧ w' = w := by
  have hk : k < 64 := pow_lt_of k j x 64 hX (by omega)
  have h0 : ((x : Int) == 0) = false := by
    rw [beq_eq_false_iff_ne]
    have hp := Nat.two_pow_pos k
    have : 0 < x := by rw [hX]; exact Nat.mul_pos hp (by omega)
    omega
  obtain ⟨hd1, hd2⟩ := db_good k hk
  have hc := hT.cell dbNamed (dbAt k) (by rw [dbLen]; exact hd1)
  rw [List.getD_eq_getElem?_getD, hd2, Option.getD_some] at hc
  exact tz64_core x (dbAt k) k _ w hx hk (tz_bits k j x hX hx) h0 (db_index k) hd1 hc
set_option maxRecDepth 100000 in
theorem tz64_zero (w : World) : Calls Tryd.prog 121 #[.int .u64 0] w fun e w' => e = .returned (.int .i64 64) ∧ w' = w := by
  go_enter Tryd.func121, Tryd.ntmps121
  go_wp2
  go_ret
  exact ⟨rfl, rfl⟩
set_option maxRecDepth 100000 in
theorem tz_any (k j x : Nat) (w : World) (hX : x = 2 ^ k * (2 * j + 1)) (hx : x < 18446744073709551616) (hT : Lib.TabIs Tryd.prog w "math/bits.deBruijn64tab" .u8 dbTab) :
    Calls Tryd.prog 96 #[.int .u64 (x : Int)] w fun e w' => e = .returned (.int .i64 k) ∧ w' = w := by
  have H := tz64_any k j x w hX hx hT
  clear hX hx hT
  go_enter Tryd.func96, Tryd.ntmps96
  go_wp2_with (go_at_call 121; refine H.mono ?_; rintro e w' ⟨rfl, rfl⟩)
  go_ret
  exact ⟨rfl, rfl⟩
set_option maxRecDepth 100000 in
theorem tz_zero (w : World) : Calls Tryd.prog 96 #[.int .u64 0] w fun e w' => e = .returned (.int .i64 64) ∧ w' = w := by
  go_enter Tryd.func96, Tryd.ntmps96
  go_wp2_with (go_at_call 121; refine (tz64_zero _).mono ?_; rintro e w' ⟨rfl, rfl⟩)
  go_ret
  exact ⟨rfl, rfl⟩
end Go.Proofs.YthehpnhjfnenoaaDoor
