/-
  Plain mathematics of addresses and prefixes: the power of two that is a prefix's size, and what the program's bits come to.
-/
import Derived.Laws.BitsLemmas
import Derived.Laws.BitsAllLaws
import Derived.Laws.Wrap64
import Derived.Laws.Entries
namespace Go.Proofs.Ytkcacdlgmapjjaa
open Go

/-- How many addresses a prefix of Len n has (n from 0 to 32). -/
def pw (n : Int) : Int := 2 ^ (32 - n).toNat

theorem pw_nat (n : Int) : pw n = ((2 ^ (32 - n).toNat : Nat) : Int) := by unfold pw; simp
theorem pw_pos (n : Int) : 1 ≤ pw n := by
  rw [pw_nat]; have := Nat.two_pow_pos (32 - n).toNat; omega
theorem pw_le (n : Int) (h : 0 ≤ n) : pw n ≤ 4294967296 := by
  rw [pw_nat]
  have : 2 ^ (32 - n).toNat ≤ 2 ^ 32 := Nat.pow_le_pow_right (by decide) (by omega)
  omega
theorem pw_step (n : Int) (h : n < 32) : pw n = 2 * pw (n + 1) := by
  unfold pw
  rw [show (32 - n).toNat = (32 - (n + 1)).toNat + 1 by omega, Int.pow_succ]
  omega
theorem pw_32 : pw 32 = 1 := rfl
theorem pw_0 : pw 0 = 4294967296 := by decide
/-- a longer prefix's size divides a shorter one's. -/
theorem pw_dvd (m n : Int) (h : m ≤ n) (_ : n ≤ 32) : ∃ k : Int, 1 ≤ k ∧ pw m = k * pw n := by
  refine ⟨2 ^ (n - m).toNat, ?_, ?_⟩
  · have := Int.pow_pos (n := 2) (m := (n - m).toNat) (by decide); omega
  · unfold pw
    rw [← Int.pow_add, show (n - m).toNat + (32 - n).toNat = (32 - m).toNat by omega]

def isA (a : Int) : Bool := decide (0 ≤ a ∧ a < 4294967296)
def isL (n : Int) : Bool := decide (0 ≤ n ∧ n ≤ 32)
def rt (a n : Int) : Bool := decide ((0 ≤ a ∧ a < 4294967296) ∧ (0 ≤ n ∧ n ≤ 32) ∧ a % pw n = 0)
theorem isA_iff (a : Int) : isA a = true ↔ 0 ≤ a ∧ a < 4294967296 := by simp [isA]
theorem isL_iff (n : Int) : isL n = true ↔ 0 ≤ n ∧ n ≤ 32 := by simp [isL]
theorem rt_iff (a n : Int) : rt a n = true ↔ (0 ≤ a ∧ a < 4294967296) ∧ (0 ≤ n ∧ n ≤ 32) ∧ a % pw n = 0 := by simp [rt]

theorem shr32 (a : Int) : (a / 4294967296 == 0) = isA a := by
  rw [Bool.eq_iff_iff, isA_iff, beq_iff_eq]
  omega

/-- int's values below 2 to the 63 stand. -/
theorem wraps_i64 : ∀ n : Int, 0 ≤ n → n < 2 ^ 63 → IntKind.i64.wrap n = n := by
  intro n h0 h1
  rw [IntKind.wrap_i64]
  omega

theorem shl_pw (n : Int) (h0 : 0 ≤ n) (h1 : n ≤ 32) : (2 : Int) ^ min (32 - n).toNat 64 = pw n := by
  unfold pw
  rw [show min (32 - n).toNat 64 = (32 - n).toNat by omega]
theorem shr_pw (x n : Int) (h0 : 0 ≤ n) (h1 : n ≤ 32) : x / 2 ^ min (32 - n).toNat 64 = x / pw n := by
  rw [shl_pw n h0 h1]

theorem pw_form (n : Int) (h : 0 ≤ n) (h1 : n ≤ 32) : ∃ i : Nat, i ≤ 32 ∧ pw n = 2 ^ i ∧ pw n = ((2 ^ i : Nat) : Int) :=
  ⟨(32 - n).toNat, by omega, rfl, pw_nat n⟩

/-- a & (size - 1). -/
theorem and_rest (a n : Int) (ha : 0 ≤ a) (ha' : a < 4294967296) (h0 : 0 ≤ n) (h1 : n ≤ 32) : bits .and .i64 a (pw n - 1) = a % pw n := by
  obtain ⟨i, hi, e, -⟩ := pw_form n h0 h1
  rw [e]
  exact bits_mask .i64 63 (by decide) wraps_i64 i (by omega) a ha (by omega)

theorem bits_xor_nat (a b : Nat) (ha : a < 2 ^ 63) (hb : b < 2 ^ 63) : bits .xor .i64 (a : Int) (b : Int) = ((a ^^^ b : Nat) : Int) := by
  have h : a ^^^ b < 2 ^ 63 := Nat.xor_lt_two_pow ha hb
  show IntKind.i64.wrap ((BitVec.ofInt 64 (a : Int) ^^^ BitVec.ofInt 64 (b : Int)).toNat : Int) = _
  rw [BitVec.toNat_xor, BitVec.ofInt_natCast, BitVec.ofInt_natCast, BitVec.toNat_ofNat, BitVec.toNat_ofNat, Nat.mod_eq_of_lt (by omega), Nat.mod_eq_of_lt (by omega)]
  exact wraps_i64 _ (by omega) (by omega)

theorem xor_div (a b i : Nat) : (a ^^^ b) / 2 ^ i = 0 ↔ a / 2 ^ i = b / 2 ^ i := by
  rw [← Nat.shiftRight_eq_div_pow, ← Nat.shiftRight_eq_div_pow, ← Nat.shiftRight_eq_div_pow, Nat.shiftRight_xor_distrib]
  constructor
  · intro h; exact Nat.eq_of_testBit_eq fun j => by have := congrArg (fun z => z.testBit j) h; simpa [Nat.testBit_xor] using this
  · intro h; rw [h]; exact Nat.xor_self _

/-- (a ^ b) >> (32 - n) == 0. -/
theorem alike_eq (a b n : Int) (ha : 0 ≤ a) (ha' : a < 4294967296) (hb : 0 ≤ b) (hb' : b < 4294967296) (h0 : 0 ≤ n) (h1 : n ≤ 32) :
    (bits .xor .i64 a b / pw n == 0) = (a / pw n == b / pw n) := by
  obtain ⟨x, rfl⟩ := Int.eq_ofNat_of_zero_le ha
  obtain ⟨y, rfl⟩ := Int.eq_ofNat_of_zero_le hb
  obtain ⟨i, hi, -, e⟩ := pw_form n h0 h1
  rw [bits_xor_nat x y (by omega) (by omega), e, Bool.eq_iff_iff, beq_iff_eq, beq_iff_eq, ← Int.natCast_ediv, ← Int.natCast_ediv, ← Int.natCast_ediv]
  have := xor_div x y i
  constructor
  · intro h; rw [this.1 (by omega)]
  · intro h; rw [this.2 (by omega)]; rfl

/-- an address less the bits behind the first n. -/
theorem andNot_rest (a n : Int) (ha : 0 ≤ a) (ha' : a < 4294967296) (h0 : 0 ≤ n) (h1 : n ≤ 32) : bits .andNot .i64 a (pw n - 1) = a - a % pw n := by
  obtain ⟨x, rfl⟩ := Int.eq_ofNat_of_zero_le ha
  obtain ⟨i, hi, -, e⟩ := pw_form n h0 h1
  have hp := Nat.two_pow_pos i
  have hp32 : 2 ^ i ≤ 2 ^ 32 := Nat.pow_le_pow_right (by decide) hi
  have e2 : pw n - 1 = ((2 ^ i - 1 : Nat) : Int) := by rw [e]; omega
  show IntKind.i64.wrap ((BitVec.ofInt 64 (x : Int) &&& ~~~ BitVec.ofInt 64 (pw n - 1)).toNat : Int) = _
  rw [e2, e]
  have key : (BitVec.ofInt 64 (x : Int) &&& ~~~ BitVec.ofInt 64 ((2 ^ i - 1 : Nat) : Int)).toNat = x - x % 2 ^ i := by
    apply Nat.eq_of_testBit_eq
    intro j
    rw [BitVec.toNat_and, BitVec.toNat_not, BitVec.ofInt_natCast, BitVec.ofInt_natCast, BitVec.toNat_ofNat, BitVec.toNat_ofNat, Nat.mod_eq_of_lt (show x < 2 ^ 64 by omega), Nat.mod_eq_of_lt (show 2 ^ i - 1 < 2 ^ 64 by omega), Nat.testBit_and]
    have e3 : x - x % 2 ^ i = 2 ^ i * (x / 2 ^ i) := by have := Nat.div_add_mod x (2 ^ i); omega
    have e4 : 2 ^ 64 - 1 - (2 ^ i - 1) = 2 ^ 64 - (2 ^ i - 1 + 1) := by omega
    rw [e3, e4, Nat.testBit_two_pow_sub_succ (show 2 ^ i - 1 < 2 ^ 64 by omega), Nat.testBit_two_pow_sub_one, Nat.testBit_two_pow_mul, Nat.testBit_div_two_pow]
    by_cases hj : j < i
    · simp [hj, Nat.not_le.2 hj]
    · have hij : i ≤ j := by omega
      rw [show j - i + i = j by omega]
      by_cases h64 : j < 64
      · simp [hj, h64, hij]
      · have : x.testBit j = false := Nat.testBit_lt_two_pow (Nat.lt_of_lt_of_le (show x < 2 ^ 64 by omega) (Nat.pow_le_pow_right (by decide) (by omega)))
        simp [this]
  rw [key, wraps_i64 _ (by omega) (by omega)]
  have := Nat.mod_le x (2 ^ i)
  rw [← Int.natCast_emod]
  omega

/-- a prefix's address, and the bit behind its first n. -/
theorem or_next (a n : Int) (ha : 0 ≤ a) (ha' : a < 4294967296) (h0 : 0 ≤ n) (h1 : n < 32) (hm : a % pw n = 0) : bits .or .i64 a (pw (n + 1)) = a + pw (n + 1) := by
  obtain ⟨i, hi, e, e'⟩ := pw_form n h0 (by omega)
  have hs := pw_step n h1
  have hp := pw_pos (n + 1)
  have hl := pw_le n h0
  rw [e] at hm
  exact bits_join .i64 63 (by decide) wraps_i64 i a (pw (n + 1)) ha hm (by omega) (by omega) (by rw [← e]; omega) (by omega)
end Go.Proofs.Ytkcacdlgmapjjaa
