/-
  Package attr's Check and bare: what they return.
-/
import Derived.Test.YtkebcfjofeoehaaGreatDoorAttrCheck
import Derived.Test.YtkebcfjofeoehaaGreatDoorAttrText
namespace Go.Proofs.YtkebcfjofeoehaaGreatDoor
open Go.RowKit

theorem ev_ne (E : Nat → Addr) (c : Nat) : ∃ a, ev E (c + 1) = .iface 171 (.pointer (some a)) := ⟨_, rfl⟩
theorem inB3_nums (A : At) : numsA A = (!(inB3 A.pref 0 1000) || (!(inB3 A.med 0 1000) || !(inB3 A.org 0 2))) := by
  unfold numsA inB3
  simp only [Bool.not_and, ← decide_not, Int.not_le, Bool.or_assoc]
theorem AB.keep {w wr w' : World} {B : Nat} {va : Array Value} (h : AB w wr B va) (hb : Below wr.heap.size wr w') : AB w w' B va := h.on hb

set_option linter.unusedVariables false in
set_option maxRecDepth 100000 in
set_option maxHeartbeats 4000000 in
theorem aCheck_any (v : Value) (A : At) (E : Nat → Addr) (m : Int) (w : World) (hE : AttrEnv w E m) (h : IsAttr w v A) (h1 : A.path.length ≤ 1000000) (h2 : A.tags.length ≤ 1000000) :
    Calls Tryz.prog 7 #[v] w fun r w' => (∃ v', r = .returned v' ∧ IsErr w' E v' (faultA A).1.toNat (faultA A).2) ∧ Below w.heap.size w w' := by
  cases hf : fullA A with
  | true =>
    have e1 : faultA A = (7, -1) := by unfold faultA; rw [if_pos hf]
    rw [e1]
    have eb := cell_kept (below_alloc w (.cells #[] 24)) hE.full
    obtain ⟨p, cp, q, cq, rfl, i1, i2⟩ := h
    obtain ⟨P, f, n, o, T⟩ := A
    simp only at *
    have ef := fun o => cell_kept (below_alloc w o) hE.full
    clear e1 hE i1 i2 eb
    by_cases g1 : 12 < P.length
    · have g1' : decide (12 < (P.length : Int)) = true := decide_eq_true (by omega)
      go_enter Tryz.func7, Tryz.ntmps7
      go_wp2_with fail
      have ef' := ef (.cells #[.slice p P.length cp, .int .i64 f, .int .i64 n, .int .i64 o, .slice q T.length cq] 24)
      go_wp2_with fail
      go_ret
      exact ⟨⟨_, rfl, .inl ⟨rfl, rfl⟩⟩, below_alloc _ _⟩
    · have g1' : decide (12 < (P.length : Int)) = false := decide_eq_false (by omega)
      have g2' : decide (8 < (T.length : Int)) = true := by
        simp only [fullA, Bool.or_eq_true, decide_eq_true_eq] at hf
        exact decide_eq_true (by omega)
      go_enter Tryz.func7, Tryz.ntmps7
      go_wp2_with fail
      have ef' := ef (.cells #[.slice p P.length cp, .int .i64 f, .int .i64 n, .int .i64 o, .slice q T.length cq] 24)
      go_wp2_with fail
      go_ret
      exact ⟨⟨_, rfl, .inl ⟨rfl, rfl⟩⟩, below_alloc _ _⟩
  | false =>
    have hp := fault_parts A hf
    have hn := inB3_nums A
    obtain ⟨c0, hc0⟩ : ∃ c, Hid ((faultA A).1.toNat = c) := ⟨_, show _ = _ from rfl⟩
    obtain ⟨d0, hd0⟩ : ∃ c, Hid ((faultA A).2 = c) := ⟨_, show _ = _ from rfl⟩
    rw [show (faultA A).1.toNat = c0 from hc0.out, show (faultA A).2 = d0 from hd0.out] at hp ⊢
    obtain ⟨p, cp, q, cq, rfl, i1, i2⟩ := h
    obtain ⟨P, f, n, o, T⟩ := A
    simp only at *
    have HCP : Hid (∀ w', Below w.heap.size w w' → Calls _ _ _ _ _) := fun w' hb => checkPath_any p P cp E m w' (hE.below hb) (i1.below hb) h1
    have HCT : Hid (∀ w', Below w.heap.size w w' → Calls _ _ _ _ _) := fun w' hb => checkTags_any q T cq E m w' (hE.below hb) (i2.below hb) h2
    obtain ⟨c1, hc1⟩ : ∃ c, Hid (firstQ (qP P) P.length = c) := ⟨_, show _ = _ from rfl⟩
    obtain ⟨c2, hc2⟩ : ∃ c, Hid (firstQ (qT T) T.length = c) := ⟨_, show _ = _ from rfl⟩
    rw [show firstQ (qP P) P.length = c1 from hc1.out] at hp HCP
    rw [show firstQ (qT T) T.length = c2 from hc2.out] at hp HCT
    obtain ⟨c1, d1⟩ := c1
    obtain ⟨c2, d2⟩ := c2
    simp only at *
    have g1' : decide (12 < (P.length : Int)) = false := by
      simp only [fullA, Bool.or_eq_false_iff, decide_eq_false_iff_not] at hf
      exact decide_eq_false (by omega)
    have g2' : decide (8 < (T.length : Int)) = false := by
      simp only [fullA, Bool.or_eq_false_iff, decide_eq_false_iff_not] at hf
      exact decide_eq_false (by omega)
    have HE : Hid (∀ w', Below w.heap.size w w' → w'.cell? ⟨1, 0, none⟩ = some (.iface 171 (.pointer (some (E 1))))) := fun w' hb => cell_kept hb hE.bound
    obtain ⟨HP⟩ : Nonempty (Hid (_ = _)) := ⟨hp⟩
    obtain ⟨HNU⟩ : Nonempty (Hid (_ = _)) := ⟨hn⟩
    have W1 := fun w' => within_any f 0 1000 w'
    have W2 := fun w' => within_any n 0 1000 w'
    have W3 := fun w' => within_any o 0 2 w'
    obtain ⟨x1, hx1⟩ : ∃ b, Hid (inB3 f 0 1000 = b) := ⟨_, show _ = _ from rfl⟩
    obtain ⟨x2, hx2⟩ : ∃ b, Hid (inB3 n 0 1000 = b) := ⟨_, show _ = _ from rfl⟩
    obtain ⟨x3, hx3⟩ : ∃ b, Hid (inB3 o 0 2 = b) := ⟨_, show _ = _ from rfl⟩
    simp only [show inB3 f 0 1000 = x1 from hx1.out] at W1 HNU
    simp only [show inB3 n 0 1000 = x2 from hx2.out] at W2 HNU
    simp only [show inB3 o 0 2 = x3 from hx3.out] at W3 HNU
    obtain ⟨HW⟩ : Nonempty (Hid ((∀ w', Calls _ _ _ w' _) ∧ (∀ w', Calls _ _ _ w' _) ∧ (∀ w', Calls _ _ _ w' _))) := ⟨⟨W1, W2, W3⟩⟩
    clear hp hn hf i1 i2 h1 h2 hE W1 W2 W3 hc1 hc2 hc0 hd0 hx1 hx2 hx3
    go_enter Tryz.func7, Tryz.ntmps7
    go_wp2_with fail
    refine (HCP.out _ (below_alloc _ _)).mono ?_
    rintro e w1 ⟨⟨v1, rfl, hv1⟩, hb1⟩
    have hx := (ab_start w _).on hb1
    obtain ⟨HS⟩ : Nonempty (Hid (AB w w1 w.heap.size _)) := ⟨hx⟩
    obtain ⟨a0, a1, a2, a3, a4⟩ := hx.arg
    have hbw : Below w.heap.size w w1 := hx.2
    have eb := HE.out w1 hbw
    obtain ⟨HB⟩ : Nonempty (Hid (Below w.heap.size w w1)) := ⟨hbw⟩
    obtain ⟨HV⟩ : Nonempty (Hid (IsErr w1 E v1 c1 d1)) := ⟨hv1⟩
    clear hb1 hx hbw HCP
    rcases isErr_cases hv1 with ⟨rfl, rfl⟩ | ⟨hpos, t, a, rfl⟩
    · clear hv1
      cases x1 with
      | false =>
        have HF : Hid (c0 = 2 ∧ d0 = -1) := by
          have := HP.out
          rw [if_neg (by omega), show numsA _ = true from HNU.out, if_pos rfl] at this
          show _ ∧ _
          simpa using this
        go_wp2_with fail
        refine (HW.out.1 _).mono ?_
        rintro e w2 ⟨rfl, rfl⟩
        go_wp2_with fail
        go_ret
        refine ⟨⟨_, rfl, ?_⟩, HB.out⟩
        rw [HF.out.1, HF.out.2]
        exact .inl ⟨rfl, rfl⟩
      | true =>
        cases x2 with
        | false =>
          have HF : Hid (c0 = 2 ∧ d0 = -1) := by
            have := HP.out
            rw [if_neg (by omega), show numsA _ = true from HNU.out, if_pos rfl] at this
            show _ ∧ _
            simpa using this
          go_wp2_with fail
          refine (HW.out.1 _).mono ?_
          rintro e w2 ⟨rfl, rfl⟩
          go_wp2_with fail
          refine (HW.out.2.1 _).mono ?_
          rintro e w3 ⟨rfl, rfl⟩
          go_wp2_with fail
          go_ret
          refine ⟨⟨_, rfl, ?_⟩, HB.out⟩
          rw [HF.out.1, HF.out.2]
          exact .inl ⟨rfl, rfl⟩
        | true =>
          cases x3 with
          | false =>
            have HF : Hid (c0 = 2 ∧ d0 = -1) := by
              have := HP.out
              rw [if_neg (by omega), show numsA _ = true from HNU.out, if_pos rfl] at this
              show _ ∧ _
              simpa using this
            go_wp2_with fail
            refine (HW.out.1 _).mono ?_
            rintro e w2 ⟨rfl, rfl⟩
            go_wp2_with fail
            refine (HW.out.2.1 _).mono ?_
            rintro e w3 ⟨rfl, rfl⟩
            go_wp2_with fail
            refine (HW.out.2.2 _).mono ?_
            rintro e w4 ⟨rfl, rfl⟩
            go_wp2_with fail
            go_ret
            refine ⟨⟨_, rfl, ?_⟩, HB.out⟩
            rw [HF.out.1, HF.out.2]
            exact .inl ⟨rfl, rfl⟩
          | true =>
            have HF : Hid (c0 = c2 ∧ d0 = d2) := by
              have := HP.out
              rw [if_neg (by omega), show numsA _ = false from HNU.out, if_neg (by simp)] at this
              show _ ∧ _
              simpa using this
            obtain ⟨HCT'⟩ : Nonempty (Hid (Calls _ _ _ _ _)) := ⟨HCT.out w1 HB.out⟩
            go_wp2_with fail
            refine (HW.out.1 _).mono ?_
            rintro e w2 ⟨rfl, rfl⟩
            go_wp2_with fail
            refine (HW.out.2.1 _).mono ?_
            rintro e w3 ⟨rfl, rfl⟩
            go_wp2_with fail
            refine (HW.out.2.2 _).mono ?_
            rintro e w4 ⟨rfl, rfl⟩
            go_wp2_with fail
            refine HCT'.out.mono ?_
            rintro e w5 ⟨⟨v2, rfl, hv2⟩, hb2⟩
            obtain ⟨HV2⟩ : Nonempty (Hid (IsErr w5 E v2 c2 d2 ∧ Below w.heap.size w w5)) := ⟨⟨hv2, HB.out.trans (hb2.mono HB.out.size)⟩⟩
            clear hv2 hb2
            go_wp2_with fail
            go_ret
            refine ⟨⟨_, rfl, ?_⟩, HV2.out.2⟩
            rw [HF.out.1, HF.out.2]
            exact HV2.out.1
    · have HF : Hid (c0 = c1 ∧ d0 = d1) := by
        have := HP.out
        rw [if_pos hpos] at this
        show _ ∧ _
        simpa using this
      clear hv1
      go_wp2_with fail
      go_ret
      refine ⟨⟨_, rfl, ?_⟩, HB.out⟩
      rw [HF.out.1, HF.out.2]
      exact HV.out
end Go.Proofs.YtkebcfjofeoehaaGreatDoor
