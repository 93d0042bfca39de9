/-
  ip.readNumber: what it returns at every text.
-/
import Derived.Test.YtkiaceilkkhjiaaDoorEnv
namespace Go.Proofs.YtkiaceilkkhjiaaDoor
open Go.RowKit

def digB (c : UInt8) : Bool := decide (48 ≤ (c.toNat : Int) ∧ (c.toNat : Int) ≤ 57)
def valD (l : List UInt8) : Int := l.foldl (fun n c => n * 10 + ((c.toNat : Int) - 48)) 0
/-- Are these the decimal digits of a number, nine at most, no needless zero? -/
def okNum (l : List UInt8) : Bool := decide (1 ≤ l.length) && decide (l.length ≤ 9) && !(l.head? == some 48 && decide (1 < l.length)) && l.all digB
def numOf (l : List UInt8) : Int := if okNum l = true then valD l else 0

theorem valD_snoc (l : List UInt8) (c : UInt8) : valD (l ++ [c]) = valD l * 10 + ((c.toNat : Int) - 48) := by simp [valD]
theorem valD_lt : ∀ (k : Nat) (l : List UInt8), l.length = k → l.all digB = true → 0 ≤ valD l ∧ valD l < 10 ^ k
  | 0, l, h, _ => by
    have : l = [] := List.length_eq_zero_iff.1 h
    subst this; simp [valD]
  | k + 1, l, h, hd => by
    obtain ⟨l', c, rfl⟩ : ∃ l' c, l = l' ++ [c] := ⟨l.dropLast, l.getLast (by intro e; subst e; simp at h), (List.dropLast_concat_getLast _).symm⟩
    rw [List.all_append, Bool.and_eq_true] at hd
    have hc : digB c = true := by simpa using hd.2
    obtain ⟨h1, h2⟩ := valD_lt k l' (by simpa using h) hd.1
    rw [valD_snoc]
    unfold digB at hc
    have hc' := of_decide_eq_true hc
    rw [Int.pow_succ]
    omega
theorem valD_le (l : List UInt8) (h : l.length ≤ 9) (hd : l.all digB = true) : 0 ≤ valD l ∧ valD l ≤ 999999999 := by
  obtain ⟨h1, h2⟩ := valD_lt _ l rfl hd
  have : (10 : Int) ^ l.length ≤ 10 ^ 9 := by
    have := Nat.pow_le_pow_right (n := 10) (by decide) h
    exact_mod_cast this
  refine ⟨h1, ?_⟩
  omega
theorem valD_le8 (l : List UInt8) (h : l.length ≤ 8) (hd : l.all digB = true) : 0 ≤ valD l ∧ valD l ≤ 99999999 := by
  obtain ⟨h1, h2⟩ := valD_lt _ l rfl hd
  have : (10 : Int) ^ l.length ≤ 10 ^ 8 := by
    have := Nat.pow_le_pow_right (n := 10) (by decide) h
    exact_mod_cast this
  refine ⟨h1, ?_⟩
  omega
theorem take_snoc (s : ByteArray) (k : Nat) (h : k < s.size) : s.data.toList.take (k + 1) = s.data.toList.take k ++ [s[k]] := by
  rw [List.take_succ_eq_append_getElem (by simpa using h)]; rfl

theorem len_data (s : ByteArray) : s.data.toList.length = s.size := Array.length_toList
theorem okNum_short (l : List UInt8) (h : l.length = 0) : okNum l = false := by
  have : l = [] := List.length_eq_zero_iff.1 h
  subst this; rfl
theorem okNum_long (l : List UInt8) (h : ¬ l.length ≤ 9) : okNum l = false := by unfold okNum; rw [decide_eq_false h]; simp
theorem okNum_zero (l : List UInt8) (h : l.head? = some 48) (h1 : 1 < l.length) : okNum l = false := by unfold okNum; rw [h, decide_eq_true h1]; simp
theorem okNum_not (l : List UInt8) (h : l.all digB = false) : okNum l = false := by unfold okNum; rw [h]; simp
theorem okNum_yes (l : List UInt8) (h1 : 1 ≤ l.length) (h2 : l.length ≤ 9) (h3 : ¬ (l.head? = some 48 ∧ 1 < l.length)) (h4 : l.all digB = true) : okNum l = true := by
  unfold okNum
  rw [decide_eq_true h1, decide_eq_true h2, h4]
  by_cases h5 : l.head? = some 48
  · have : ¬ 1 < l.length := fun h => h3 ⟨h5, h⟩
    simp [this]
  · have : (l.head? == some 48) = false := by simpa using h5
    simp [this]
theorem numOf_not {l : List UInt8} (h : okNum l = false) : numOf l = 0 := by simp [numOf, h]
theorem numOf_yes {l : List UInt8} (h : okNum l = true) : numOf l = valD l := by simp [numOf, h]
theorem isEmpty_of (s : ByteArray) (h : s.size = 0) : s.toList.isEmpty = true := by
  rw [ByteArray.toList_eq, List.isEmpty_iff, ← List.length_eq_zero_iff, len_data]; exact h
theorem isEmpty_not (s : ByteArray) (h : 1 ≤ s.size) : s.toList.isEmpty = false := by
  rw [ByteArray.toList_eq]
  cases hl : s.data.toList with
  | nil => have := len_data s; rw [hl] at this; simp at this; omega
  | cons _ _ => rfl
theorem head_data (s : ByteArray) (h : 0 < s.size) : s.data.toList.head? = some s[0] := by
  cases hl : s.data.toList with
  | nil => have := len_data s; rw [hl] at this; simp at this; omega
  | cons c r =>
    have : s[0] = s.data.toList[0]'(by rw [len_data]; exact h) := rfl
    rw [this]
    simp [hl]

theorem okNum_bad (s : ByteArray) (k : Nat) (h : k < s.size) (hd : (s[k].toNat : Int) < 48 ∨ 57 < (s[k].toNat : Int)) : okNum s.data.toList = false := by
  apply okNum_not
  rw [List.all_eq_false]
  refine ⟨s[k], ?_, ?_⟩
  · exact List.getElem_mem (l := s.data.toList) (by rw [len_data]; exact h)
  · simp only [digB, decide_eq_true_eq]; omega
theorem digB_yes (c : UInt8) (h : 48 ≤ (c.toNat : Int) ∧ (c.toNat : Int) ≤ 57) : [c].all digB = true := by
  simp [digB]; omega

set_option maxHeartbeats 1000000 in
theorem readNumber_any (s : ByteArray) (w : World) (hs : s.size ≤ maxLen) :
    Calls Tryd.prog 42 #[.string s] w fun e w' => e = .returned (.tuple #[.int .i64 (numOf s.data.toList), .bool (okNum s.data.toList)]) ∧ w' = w := by
  unfold maxLen at hs
  by_cases h0 : s.size = 0
  · have hok := okNum_short s.data.toList (by rw [len_data]; exact h0)
    rw [hok, numOf_not hok]; clear hok
    have hem := isEmpty_of s h0
    clear h0
    go_enter Tryd.func42, Tryd.ntmps42
    go_wp2
    go_ret2
    exact ⟨rfl, rfl⟩
  have hpos : 1 ≤ s.size := by omega
  have hem := isEmpty_not s hpos
  clear h0
  by_cases h9 : ¬ s.size ≤ 9
  · have hok := okNum_long s.data.toList (by rw [len_data]; exact h9)
    rw [hok, numOf_not hok]; clear hok
    go_enter Tryd.func42, Tryd.ntmps42
    go_wp2
    go_ret2
    exact ⟨rfl, rfl⟩
  replace h9 : s.size ≤ 9 := by omega
  by_cases hz : s[0] = 48 ∧ 1 < s.size
  · have hok := okNum_zero s.data.toList (by rw [head_data s (by omega), hz.1]) (by rw [len_data]; exact hz.2)
    rw [hok, numOf_not hok]; clear hok
    have hz0 : ((s[0].toNat : Int) == 48) = true := by rw [hz.1]; rfl
    have hz1 := hz.2
    clear hz
    go_enter Tryd.func42, Tryd.ntmps42
    go_wp2
    go_ret2
    exact ⟨rfl, rfl⟩
  have HZ : Hid (¬ (s[0] = 48 ∧ 1 < s.size)) := hz
  have hgo : (((s[0].toNat : Int) == 48) = true ∧ s.size ≤ 1) ∨ ((s[0].toNat : Int) == 48) = false := by
    by_cases h : s[0] = 48
    · exact Or.inl ⟨by rw [h]; rfl, by have : ¬ 1 < s.size := fun h' => hz ⟨h, h'⟩; omega⟩
    · right
      rw [beq_eq_false_iff_ne]
      intro e
      exact h (UInt8.toNat_inj.1 (show s[0].toNat = 48 by omega))
  clear hz
  rcases hgo with ⟨hz0, hz1⟩ | hz0
  all_goals
    go_enter Tryd.func42, Tryd.ntmps42
    go_wp2
    go_loop [4, 5] (fun n i => ∃ k : Nat, k ≤ s.size ∧ i = .int .i64 k ∧ n = .int .i64 (valD (s.data.toList.take k)) ∧ (s.data.toList.take k).all digB = true) (fun _ i => s.size - (intOf i).toNat)
    case atStart => exact ⟨0, Nat.zero_le _, rfl, rfl, rfl⟩
    case round =>
      obtain ⟨k, hk, rfl, rfl, hdk⟩ := hrel
      have HD : Hid ((s.data.toList.take k).all digB = true) := hdk
      clear hdk
      by_cases hlt : k < s.size
      · have hv := valD_le8 (s.data.toList.take k) (by rw [List.length_take, len_data]; omega) HD.out
        obtain ⟨v, hvv⟩ : ∃ v, Hid (valD (s.data.toList.take k) = v) := ⟨_, show _ = _ from rfl⟩
        rw [hvv.out] at hv ⊢
        go_wp2
        · go_ret2
          have hok := okNum_bad s k hlt (by omega)
          rw [hok, numOf_not hok]
          exact ⟨rfl, rfl⟩
        · go_round
          case rel => exact ⟨k + 1, by omega, by go_num, by rw [take_snoc s k hlt, valD_snoc, hvv.out], by rw [take_snoc s k hlt, List.all_append, HD.out, digB_yes s[k] (by omega)]; rfl⟩
          case measure => simp [intOf]; omega
        · go_ret2
          have hok := okNum_bad s k hlt (by omega)
          rw [hok, numOf_not hok]
          exact ⟨rfl, rfl⟩
      · go_wp2
        go_ret2
        have hkk : k = s.size := by omega
        have hall : s.data.toList.take k = s.data.toList := List.take_of_length_le (by rw [len_data]; omega)
        have hd := HD.out
        rw [hall] at hd
        have hok := okNum_yes s.data.toList (by rw [len_data]; omega) (by rw [len_data]; omega) (by rw [head_data s (by omega), len_data]; exact fun h => HZ.out ⟨Option.some.inj h.1, h.2⟩) hd
        rw [hok, numOf_yes hok]
        exact ⟨by rw [hall]; rfl, rfl⟩
end Go.Proofs.YtkiaceilkkhjiaaDoor
