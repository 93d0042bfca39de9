/-
  number.Read: what it returns at every text.
-/
import Derived.Test.YthehpnhjfnenoaaDoorNumMath
namespace Go.Proofs.YthehpnhjfnenoaaDoor
open Go.RowKit

set_option maxHeartbeats 1000000 in
theorem number_any (s : ByteArray) (w : World) (hs : s.size ≤ maxLen) :
    Calls Tryd.prog 52 #[.string s] w fun e w' => e = .returned (.tuple #[.int .i64 (numOf s.data.toList), .bool (okNum s.data.toList)]) ∧ w' = w := by
  unfold maxLen at hs
  by_cases h0 : s.size = 0
  · have hok := okNum_short s.data.toList (by rw [len_data]; exact h0)
    rw [hok, numOf_not hok]; clear hok
    have hem := isEmpty_of s h0
    clear h0
    go_enter Tryd.func52, Tryd.ntmps52
    go_wp2
    go_ret2
    exact ⟨rfl, rfl⟩
  have hpos : 1 ≤ s.size := by omega
  have hem := isEmpty_not s hpos
  clear h0
  by_cases h9 : ¬ s.size ≤ 9
  · have hok := okNum_long s.data.toList (by rw [len_data]; exact h9)
    rw [hok, numOf_not hok]; clear hok
    go_enter Tryd.func52, Tryd.ntmps52
    go_wp2
    go_ret2
    exact ⟨rfl, rfl⟩
  replace h9 : s.size ≤ 9 := by omega
  by_cases hz : s[0] = 48 ∧ 1 < s.size
  · have hok := okNum_zero s.data.toList (by rw [head_data s (by omega), hz.1]) (by rw [len_data]; exact hz.2)
    rw [hok, numOf_not hok]; clear hok
    have hz0 : ((s[0].toNat : Int) == 48) = true := by rw [hz.1]; rfl
    have hz1 := hz.2
    clear hz
    go_enter Tryd.func52, Tryd.ntmps52
    go_wp2
    go_ret2
    exact ⟨rfl, rfl⟩
  have HZ : Hid (¬ (s[0] = 48 ∧ 1 < s.size)) := hz
  have hgo : (((s[0].toNat : Int) == 48) = true ∧ s.size ≤ 1) ∨ ((s[0].toNat : Int) == 48) = false := by
    by_cases h : s[0] = 48
    · exact Or.inl ⟨by rw [h]; rfl, by have : ¬ 1 < s.size := fun h' => hz ⟨h, h'⟩; omega⟩
    · right
      rw [beq_eq_false_iff_ne]
      intro e
      exact h (UInt8.toNat_inj.1 (show s[0].toNat = 48 by omega))
  clear hz
  rcases hgo with ⟨hz0, hz1⟩ | hz0
  all_goals
    go_enter Tryd.func52, Tryd.ntmps52
    go_wp2
    go_loop [4, 5] (fun n i => ∃ k : Nat, k ≤ s.size ∧ i = .int .i64 k ∧ n = .int .i64 (valD (s.data.toList.take k)) ∧ (s.data.toList.take k).all digB = true) (fun _ i => s.size - (intOf i).toNat)
    case atStart => exact ⟨0, Nat.zero_le _, rfl, rfl, rfl⟩
    case round =>
      obtain ⟨k, hk, rfl, rfl, hdk⟩ := hrel
      have HD : Hid ((s.data.toList.take k).all digB = true) := hdk
      clear hdk
      by_cases hlt : k < s.size
      · have hv := valD_le8 (s.data.toList.take k) (by rw [List.length_take, len_data]; omega) HD.out
        obtain ⟨v, hvv⟩ : ∃ v, Hid (valD (s.data.toList.take k) = v) := ⟨_, show _ = _ from rfl⟩
        rw [hvv.out] at hv ⊢
        go_wp2
        · go_ret2
          have hok := okNum_bad s k hlt (by omega)
          rw [hok, numOf_not hok]
          exact ⟨rfl, rfl⟩
        · go_round
          case rel => exact ⟨k + 1, by omega, by go_num, by rw [take_snoc s k hlt, valD_snoc, hvv.out], by rw [take_snoc s k hlt, List.all_append, HD.out, digB_yes s[k] (by omega)]; rfl⟩
          case measure => simp [intOf]; omega
        · go_ret2
          have hok := okNum_bad s k hlt (by omega)
          rw [hok, numOf_not hok]
          exact ⟨rfl, rfl⟩
      · go_wp2
        go_ret2
        have hkk : k = s.size := by omega
        have hall : s.data.toList.take k = s.data.toList := List.take_of_length_le (by rw [len_data]; omega)
        have hd := HD.out
        rw [hall] at hd
        have hok := okNum_yes s.data.toList (by rw [len_data]; omega) (by rw [len_data]; omega) (by rw [head_data s (by omega), len_data]; exact fun h => HZ.out ⟨Option.some.inj h.1, h.2⟩) hd
        rw [hok, numOf_yes hok]
        exact ⟨by rw [hall]; rfl, rfl⟩
end Go.Proofs.YthehpnhjfnenoaaDoor
