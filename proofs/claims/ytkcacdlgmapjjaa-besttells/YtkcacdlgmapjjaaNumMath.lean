/-
  Decimal digits: plain mathematics.
-/
import Derived.Test.YtkcacdlgmapjjaaBase0
import Derived.Lib.ItoaNum
import Derived.Lib.ItoaLen
import Derived.Lib.SlBytesRow
namespace Go.Proofs.Ytkcacdlgmapjjaa
open Go.RowKit

def digB (c : UInt8) : Bool := decide (48 ≤ (c.toNat : Int) ∧ (c.toNat : Int) ≤ 57)
def valD (l : List UInt8) : Int := l.foldl (fun n c => n * 10 + ((c.toNat : Int) - 48)) 0
/-- Are these the decimal digits of a number, nine at most, no needless zero? -/
def okNum (l : List UInt8) : Bool := decide (1 ≤ l.length) && decide (l.length ≤ 9) && !(l.head? == some 48 && decide (1 < l.length)) && l.all digB
def numOf (l : List UInt8) : Int := if okNum l = true then valD l else 0

theorem valD_snoc (l : List UInt8) (c : UInt8) : valD (l ++ [c]) = valD l * 10 + ((c.toNat : Int) - 48) := by simp [valD]
theorem valD_lt : ∀ (k : Nat) (l : List UInt8), l.length = k → l.all digB = true → 0 ≤ valD l ∧ valD l < 10 ^ k
  | 0, l, h, _ => by
    have : l = [] := List.length_eq_zero_iff.1 h
    subst this; simp [valD]
  | k + 1, l, h, hd => by
    obtain ⟨l', c, rfl⟩ : ∃ l' c, l = l' ++ [c] := ⟨l.dropLast, l.getLast (by intro e; subst e; simp at h), (List.dropLast_concat_getLast _).symm⟩
    rw [List.all_append, Bool.and_eq_true] at hd
    have hc : digB c = true := by simpa using hd.2
    obtain ⟨h1, h2⟩ := valD_lt k l' (by simpa using h) hd.1
    rw [valD_snoc]
    unfold digB at hc
    have hc' := of_decide_eq_true hc
    rw [Int.pow_succ]
    omega
theorem valD_le (l : List UInt8) (h : l.length ≤ 9) (hd : l.all digB = true) : 0 ≤ valD l ∧ valD l ≤ 999999999 := by
  obtain ⟨h1, h2⟩ := valD_lt _ l rfl hd
  have : (10 : Int) ^ l.length ≤ 10 ^ 9 := by
    have := Nat.pow_le_pow_right (n := 10) (by decide) h
    exact_mod_cast this
  refine ⟨h1, ?_⟩
  omega
theorem valD_le8 (l : List UInt8) (h : l.length ≤ 8) (hd : l.all digB = true) : 0 ≤ valD l ∧ valD l ≤ 99999999 := by
  obtain ⟨h1, h2⟩ := valD_lt _ l rfl hd
  have : (10 : Int) ^ l.length ≤ 10 ^ 8 := by
    have := Nat.pow_le_pow_right (n := 10) (by decide) h
    exact_mod_cast this
  refine ⟨h1, ?_⟩
  omega
theorem take_snoc (s : ByteArray) (k : Nat) (h : k < s.size) : s.data.toList.take (k + 1) = s.data.toList.take k ++ [s[k]] := by
  rw [List.take_succ_eq_append_getElem (by simpa using h)]; rfl

theorem len_data (s : ByteArray) : s.data.toList.length = s.size := Array.length_toList
theorem okNum_short (l : List UInt8) (h : l.length = 0) : okNum l = false := by
  have : l = [] := List.length_eq_zero_iff.1 h
  subst this; rfl
theorem okNum_long (l : List UInt8) (h : ¬ l.length ≤ 9) : okNum l = false := by unfold okNum; rw [decide_eq_false h]; simp
theorem okNum_zero (l : List UInt8) (h : l.head? = some 48) (h1 : 1 < l.length) : okNum l = false := by unfold okNum; rw [h, decide_eq_true h1]; simp
theorem okNum_not (l : List UInt8) (h : l.all digB = false) : okNum l = false := by unfold okNum; rw [h]; simp
theorem okNum_yes (l : List UInt8) (h1 : 1 ≤ l.length) (h2 : l.length ≤ 9) (h3 : ¬ (l.head? = some 48 ∧ 1 < l.length)) (h4 : l.all digB = true) : okNum l = true := by
  unfold okNum
  rw [decide_eq_true h1, decide_eq_true h2, h4]
  by_cases h5 : l.head? = some 48
  · have : ¬ 1 < l.length := fun h => h3 ⟨h5, h⟩
    simp [this]
  · have : (l.head? == some 48) = false := by simpa using h5
    simp [this]
theorem numOf_not {l : List UInt8} (h : okNum l = false) : numOf l = 0 := by simp [numOf, h]
theorem numOf_yes {l : List UInt8} (h : okNum l = true) : numOf l = valD l := by simp [numOf, h]
theorem isEmpty_of (s : ByteArray) (h : s.size = 0) : s.toList.isEmpty = true := by
  rw [ByteArray.toList_eq, List.isEmpty_iff, ← List.length_eq_zero_iff, len_data]; exact h
theorem isEmpty_not (s : ByteArray) (h : 1 ≤ s.size) : s.toList.isEmpty = false := by
  rw [ByteArray.toList_eq]
  cases hl : s.data.toList with
  | nil => have := len_data s; rw [hl] at this; simp at this; omega
  | cons _ _ => rfl
theorem head_data (s : ByteArray) (h : 0 < s.size) : s.data.toList.head? = some s[0] := by
  cases hl : s.data.toList with
  | nil => have := len_data s; rw [hl] at this; simp at this; omega
  | cons c r =>
    have : s[0] = s.data.toList[0]'(by rw [len_data]; exact h) := rfl
    rw [this]
    simp [hl]

theorem okNum_bad (s : ByteArray) (k : Nat) (h : k < s.size) (hd : (s[k].toNat : Int) < 48 ∨ 57 < (s[k].toNat : Int)) : okNum s.data.toList = false := by
  apply okNum_not
  rw [List.all_eq_false]
  refine ⟨s[k], ?_, ?_⟩
  · exact List.getElem_mem (l := s.data.toList) (by rw [len_data]; exact h)
  · simp only [digB, decide_eq_true_eq]; omega
theorem digB_yes (c : UInt8) (h : 48 ≤ (c.toNat : Int) ∧ (c.toNat : Int) ≤ 57) : [c].all digB = true := by
  simp [digB]; omega

end Go.Proofs.Ytkcacdlgmapjjaa
