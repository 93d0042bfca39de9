/-
  The document's SamePrefixes: what it returns.
-/
import Derived.Test.YthehpnhjfnenoaaDoorPairRow
import Derived.BigQuiet
import Derived.Deep.QuietTactic
namespace Go.Proofs.YthehpnhjfnenoaaDoor
open Go.RowKit

theorem sameTake_step {A B : List (Int × Int)} {k : Nat} (ha : k < A.length) (hb : k < B.length) (h : A.take k = B.take k) (he : A[k] = B[k]) : A.take (k + 1) = B.take (k + 1) := by
  rw [List.take_succ_eq_append_getElem ha, List.take_succ_eq_append_getElem hb, h, he]
set_option linter.unusedVariables false in
set_option maxRecDepth 100000 in
set_option maxHeartbeats 4000000 in
theorem samePrefixes_any (A B : List (Int × Int)) (p q : Option Addr) (c d : Nat) (w : World) (hA : Pairs w p A) (hB : Pairs w q B) (hl : A.length ≤ 1099511627776) :
    Calls Tryd.prog 39 #[.slice p A.length c, .slice q B.length d] w fun e w' => e = .returned (.bool (decide (A = B))) ∧ Below w.heap.size w w' := by
  by_cases hlen : A.length = B.length
  · have HA : Hid (Pairs w p A) := hA
    have HB : Hid (Pairs w q B) := hB
    have HL : Hid (A.length = B.length) := hlen
    obtain ⟨n, hn⟩ : ∃ n, Hid (B.length = n) := ⟨_, show _ = _ from rfl⟩
    rw [hlen, show B.length = n from hn.out]
    rw [hlen, show B.length = n from hn.out] at hl
    obtain ⟨r, hr⟩ : ∃ r, Hid (decide (A = B) = r) := ⟨_, show _ = _ from rfl⟩
    rw [show decide (A = B) = r from hr.out]
    clear hA hB hlen
    go_enter Tryd.func39, Tryd.ntmps39
    go_wp2
    go_loopw [5] (fun z wr => ∃ k : Nat, z = .int .i64 k ∧ k ≤ n ∧ Hid (A.take k = B.take k) ∧ ∃ m, wr = w.drewN m) (fun z _ => n - (intOf z).toNat)
    case atStart => exact ⟨0, rfl, Nat.zero_le _, by simp [Hid], 0, rfl⟩
    case round =>
      obtain ⟨k, rfl, hk, HT, m, rfl⟩ := hrel
      by_cases hlt : k < n
      · have hkA : k < A.length := by rw [HL.out, show B.length = n from hn.out]; exact hlt
        have hkB : k < B.length := by rw [show B.length = n from hn.out]; exact hlt
        obtain ⟨b0, o0, rfl, a0, a1⟩ := HA.out k hkA
        obtain ⟨b1, o1, rfl, d0, d1⟩ := HB.out k hkB
        obtain ⟨x0, hx0⟩ : ∃ x, Hid (A[k].1 = x) := ⟨_, show _ = _ from rfl⟩
        obtain ⟨x1, hx1⟩ : ∃ x, Hid (A[k].2 = x) := ⟨_, show _ = _ from rfl⟩
        obtain ⟨y0, hy0⟩ : ∃ x, Hid (B[k].1 = x) := ⟨_, show _ = _ from rfl⟩
        obtain ⟨y1, hy1⟩ : ∃ x, Hid (B[k].2 = x) := ⟨_, show _ = _ from rfl⟩
        rw [show A[k].1 = x0 from hx0.out] at a0
        rw [show A[k].2 = x1 from hx1.out] at a1
        rw [show B[k].1 = y0 from hy0.out] at d0
        rw [show B[k].2 = y1 from hy1.out] at d1
        have hlt' : (k : Int) < (n : Int) := by omega
        by_cases he : x0 = y0 ∧ x1 = y1
        · obtain ⟨rfl, rfl⟩ := he
          obtain ⟨HT2⟩ : Nonempty (Hid (A.take (k + 1) = B.take (k + 1))) := ⟨sameTake_step hkA hkB HT.out (Prod.ext (by rw [hx0.out, hy0.out]) (by rw [hx1.out, hy1.out]))⟩
          go_wp2
          go_quiet (fail)
          go_wp2
          go_roundw
          case rel => exact ⟨k + 1, by go_num, by omega, HT2.out, m + nq, rfl⟩
          case measure => simp [intOf]; omega
        · have hrf : r = false := by
            rw [← hr.out, decide_eq_false_iff_not]
            intro e
            subst e
            exact he ⟨by rw [← hx0.out, ← hy0.out], by rw [← hx1.out, ← hy1.out]⟩
          subst hrf
          by_cases h0 : x0 = y0
          · subst h0
            have h1 : ¬ x1 = y1 := fun e => he ⟨rfl, e⟩
            have h1' : (x1 == y1) = false := by rw [beq_eq_false_iff_ne]; exact h1
            go_wp2
            go_quiet (fail)
            go_wp2
            go_ret
            exact ⟨rfl, below_drewN (below_drewN (Below.refl _ _) _) _⟩
          · have h0' : (x0 == y0) = false := by rw [beq_eq_false_iff_ne]; exact h0
            go_wp2
            go_quiet (fail)
            go_wp2
            go_ret
            exact ⟨rfl, below_drewN (below_drewN (Below.refl _ _) _) _⟩
      · have hrt : r = true := by
          rw [← hr.out, decide_eq_true_iff]
          have h := HT.out
          rw [List.take_of_length_le (by rw [HL.out, hn.out]; omega), List.take_of_length_le (by rw [hn.out]; omega)] at h
          exact h
        subst hrt
        go_wp2
        go_ret
        exact ⟨rfl, below_drewN (Below.refl _ _) _⟩
  · have hd : decide (A = B) = false := decide_eq_false fun e => hlen (by rw [e])
    have hne : ((A.length : Int) == (B.length : Int)) = false := by rw [beq_eq_false_iff_ne]; omega
    rw [hd]
    clear hd hA hB
    go_enter Tryd.func39, Tryd.ntmps39
    go_wp2
    go_ret
    exact ⟨rfl, Below.refl _ _⟩

end Go.Proofs.YthehpnhjfnenoaaDoor
