/-
  The document's answer, chapter 1 (herepathref1): NumberOf: what it returns at every text.
-/
import Derived.Test.YthehpnhjfnenoaaDoorRef4
namespace Go.Proofs.YthehpnhjfnenoaaDoor
open Go.RowKit

def numR (l : List UInt8) : Int := if okNum l = true then valD l else -1
theorem numR_not {l : List UInt8} (h : okNum l = false) : numR l = -1 := by simp [numR, h]
theorem numR_yes {l : List UInt8} (h : okNum l = true) : numR l = valD l := by simp [numR, h]

set_option linter.unusedVariables false in
set_option maxRecDepth 100000 in
set_option maxHeartbeats 2000000 in
theorem rNumberOf_any (s : ByteArray) (w : World) (hs : s.size ≤ maxLen) :
    Calls Tryd.prog 56 #[.string s] w fun e w' => e = .returned (.int .i64 (numR s.data.toList)) ∧ w' = w := by
  unfold maxLen at hs
  by_cases h0 : s.size = 0
  · have hok := okNum_short s.data.toList (by rw [len_data]; exact h0)
    rw [numR_not hok]; clear hok
    have hd : decide ((s.size : Int) < 1) = true := decide_eq_true (by omega)
    go_enter Tryd.func56, Tryd.ntmps56
    go_wp2
    go_ret
    exact ⟨rfl, rfl⟩
  have hpos : 1 ≤ s.size := by omega
  have hd0 : decide ((s.size : Int) < 1) = false := decide_eq_false (by omega)
  clear h0
  by_cases h9 : ¬ s.size ≤ 9
  · have hok := okNum_long s.data.toList (by rw [len_data]; exact h9)
    rw [numR_not hok]; clear hok
    have hd : decide (9 < (s.size : Int)) = true := decide_eq_true (by omega)
    go_enter Tryd.func56, Tryd.ntmps56
    go_wp2
    go_ret
    exact ⟨rfl, rfl⟩
  replace h9 : s.size ≤ 9 := by omega
  have hd9 : decide (9 < (s.size : Int)) = false := decide_eq_false (by omega)
  by_cases hz : s[0] = 48 ∧ 1 < s.size
  · have hok := okNum_zero s.data.toList (by rw [head_data s (by omega), hz.1]) (by rw [len_data]; exact hz.2)
    rw [numR_not hok]; clear hok
    have hz0 : ((s[0].toNat : Int) == 48) = true := by rw [hz.1]; rfl
    have hz1 := hz.2
    have hd1 : decide (1 < (s.size : Int)) = true := decide_eq_true (by omega)
    clear hz
    go_enter Tryd.func56, Tryd.ntmps56
    go_wp2
    go_ret
    exact ⟨rfl, rfl⟩
  have HZ : Hid (¬ (s[0] = 48 ∧ 1 < s.size)) := hz
  have hgo : (s.size ≤ 1 ∧ decide (1 < (s.size : Int)) = false) ∨ (decide (1 < (s.size : Int)) = true ∧ ((s[0].toNat : Int) == 48) = false) := by
    by_cases h : 1 < s.size
    · right
      refine ⟨decide_eq_true (by omega), ?_⟩
      rw [beq_eq_false_iff_ne]
      intro e
      exact hz ⟨UInt8.toNat_inj.1 (show s[0].toNat = 48 by omega), h⟩
    · exact Or.inl ⟨by omega, decide_eq_false (by omega)⟩
  clear hz
  rcases hgo with ⟨hz1, hz0⟩ | ⟨hz1, hz0⟩
  all_goals
    go_enter Tryd.func56, Tryd.ntmps56
    go_wp2
    go_loop [3, 4] (fun n i => ∃ k : Nat, k ≤ s.size ∧ i = .int .i64 k ∧ n = .int .i64 (valD (s.data.toList.take k)) ∧ (s.data.toList.take k).all digB = true) (fun _ i => s.size - (intOf i).toNat)
    case atStart => exact ⟨0, Nat.zero_le _, rfl, rfl, rfl⟩
    case round =>
      obtain ⟨k, hk, rfl, rfl, hdk⟩ := hrel
      have HD : Hid ((s.data.toList.take k).all digB = true) := hdk
      clear hdk
      by_cases hlt : k < s.size
      · have hv := valD_le8 (s.data.toList.take k) (by rw [List.length_take, len_data]; omega) HD.out
        obtain ⟨v, hvv⟩ : ∃ v, Hid (valD (s.data.toList.take k) = v) := ⟨_, show _ = _ from rfl⟩
        rw [hvv.out] at hv ⊢
        by_cases hdig : 48 ≤ (s[k].toNat : Int) ∧ (s[k].toNat : Int) ≤ 57
        · obtain ⟨g0, g1⟩ := hdig
          have hd1 : decide ((s[k].toNat : Int) < 48) = false := decide_eq_false (by omega)
          have hd2 : decide (57 < (s[k].toNat : Int)) = false := decide_eq_false (by omega)
          have hwu : IntKind.u8.wrap ((s[k].toNat : Int) - 48) = (s[k].toNat : Int) - 48 := by rw [IntKind.wrap_u8]; omega
          go_wp2
          go_round
          case rel => exact ⟨k + 1, by omega, by go_num, by rw [take_snoc s k hlt, valD_snoc, hvv.out, Int.mul_comm v 10], by rw [take_snoc s k hlt, List.all_append, HD.out, digB_yes s[k] ⟨g0, g1⟩]; rfl⟩
          case measure => simp [intOf]; omega
        · have HOK : Hid (okNum s.data.toList = false) := okNum_bad s k hlt (by omega)
          have hor : decide ((s[k].toNat : Int) < 48) = true ∨ (decide ((s[k].toNat : Int) < 48) = false ∧ decide (57 < (s[k].toNat : Int)) = true) := by
            by_cases h : (s[k].toNat : Int) < 48
            · exact Or.inl (decide_eq_true h)
            · exact Or.inr ⟨decide_eq_false h, decide_eq_true (by omega)⟩
          clear hdig
          rcases hor with h1 | ⟨h1, h2⟩
          · go_wp2
            go_ret
            rw [numR_not HOK.out]
            exact ⟨rfl, rfl⟩
          · go_wp2
            go_ret
            rw [numR_not HOK.out]
            exact ⟨rfl, rfl⟩
      · go_wp2
        go_ret
        have hkk : k = s.size := by omega
        have hall : s.data.toList.take k = s.data.toList := List.take_of_length_le (by rw [len_data]; omega)
        have hd := HD.out
        rw [hall] at hd
        have hok := okNum_yes s.data.toList (by rw [len_data]; omega) (by rw [len_data]; omega) (by rw [head_data s (by omega), len_data]; exact fun h => HZ.out ⟨Option.some.inj h.1, h.2⟩) hd
        rw [numR_yes hok]
        exact ⟨by rw [hall]; rfl, rfl⟩
end Go.Proofs.YthehpnhjfnenoaaDoor
