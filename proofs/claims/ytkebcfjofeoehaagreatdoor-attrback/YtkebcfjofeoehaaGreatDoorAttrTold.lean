/-
  The law's closed fact (herepathlaw1.told).
-/
import Derived.Test.YtkebcfjofeoehaaGreatDoorAttrRead
import Derived.Test.YtkebcfjofeoehaaGreatDoorAttrDo
namespace Go.Proofs.YtkebcfjofeoehaaGreatDoor
open Go.RowKit

def toldA : At := ⟨[1, 2], 100, 0, 1, [5, 7]⟩
theorem told_right : RightA toldA := by
  refine ⟨by decide, by decide, ?_, by decide, by decide, by decide, ?_, ?_⟩
  · intro x hx; simp [toldA] at hx; omega
  · intro x hx; simp [toldA] at hx; omega
  · intro j hj
    have : j = 0 := by simp [toldA] at hj; omega
    subst this
    show (5 : Int) < 7
    decide
theorem told_text : textA toldA = [49, 45, 50, 32, 49, 48, 48, 32, 48, 32, 49, 32, 53, 44, 55] := by
  have e1 : Lib.itoa 1 = [49] := by rw [itoa_dec 1 (by decide), show (1 : Int).toNat = 1 from rfl, Lib.decDigits_one (by decide)]; rfl
  have e2 : Lib.itoa 2 = [50] := by rw [itoa_dec 2 (by decide), show (2 : Int).toNat = 2 from rfl, Lib.decDigits_one (by decide)]; rfl
  have e0 : Lib.itoa 0 = [48] := by rw [itoa_dec 0 (by decide), show (0 : Int).toNat = 0 from rfl, Lib.decDigits_one (by decide)]; rfl
  have e5 : Lib.itoa 5 = [53] := by rw [itoa_dec 5 (by decide), show (5 : Int).toNat = 5 from rfl, Lib.decDigits_one (by decide)]; rfl
  have e7 : Lib.itoa 7 = [55] := by rw [itoa_dec 7 (by decide), show (7 : Int).toNat = 7 from rfl, Lib.decDigits_one (by decide)]; rfl
  have e100 : Lib.itoa 100 = [49, 48, 48] := by
    rw [itoa_dec 100 (by decide), show (100 : Int).toNat = 100 from rfl, decDigits_more 100 (by decide), show 100 / 10 = 10 from rfl, decDigits_more 10 (by decide), show 10 / 10 = 1 from rfl, Lib.decDigits_one (by decide)]; rfl
  simp [textA, toldA, joinN, e0, e1, e2, e5, e7, e100]

set_option linter.unusedVariables false in
set_option maxRecDepth 100000 in
set_option maxHeartbeats 4000000 in
theorem told_any (E : Nat → Addr) (m : Int) (w : World) (hE : AttrEnv w E m) :
    Calls Tryz.prog 5 #[] w fun r w' => r = .returned (.bool true) ∧ Below w.heap.size w w' := by
  obtain ⟨HRD⟩ : Nonempty (Hid (Calls Tryz.prog 9 #[.string ⟨#[49, 45, 50, 32, 49, 48, 48, 32, 48, 32, 49, 32, 53, 44, 55]⟩] w fun r w' => (∃ v, r = .returned (.tuple #[v, .nilIface]) ∧ AttrK w' v toldA) ∧ Below w.heap.size w w')) := ⟨by
    have := aRead_any [49, 45, 50, 32, 49, 48, 48, 32, 48, 32, 49, 32, 53, 44, 55] E m w hE (by decide)
    have h := read_text told_right
    rw [told_text] at h
    rw [h.1, h.2] at this
    exact this⟩
  obtain ⟨HT⟩ : Nonempty (Hid (∀ v w', Below w.heap.size w w' → IsAttr w' v toldA → Calls Tryz.prog 8 #[v] w' fun r w'' => r = .returned (.string ⟨#[49, 45, 50, 32, 49, 48, 48, 32, 48, 32, 49, 32, 53, 44, 55]⟩) ∧ Below w'.heap.size w' w'')) := ⟨fun v w' hb hv => by
    have := text_right v toldA E m w' (hE.below hb) hv told_right
    rw [told_text] at this
    exact this⟩
  obtain ⟨HG⟩ : Nonempty (Hid (∀ v w', IsAttr w' v toldA → Calls Tryz.prog 12 #[v, .int .i64 2] w' fun r w'' => r = .returned (.bool true) ∧ Below w'.heap.size w' w'')) := ⟨fun v w' hv => through_any v toldA 2 w' hv (by decide)⟩
  clear hE
  go_enter Tryz.func5, Tryz.ntmps5
  go_wp2_with fail
  refine HRD.out.mono ?_
  rintro e w1 ⟨⟨v, rfl, hk⟩, hb1⟩
  obtain ⟨p, cp, q, cq, rfl, i1, i2, -, -⟩ := hk
  obtain ⟨HB1⟩ : Nonempty (Hid (Below w.heap.size w w1 ∧ IsAttr w1 (.agg #[.slice p 2 cp, .int .i64 100, .int .i64 0, .int .i64 1, .slice q 2 cq]) toldA)) := ⟨⟨hb1, p, cp, q, cq, rfl, i1, i2⟩⟩
  simp only [toldA, List.length_cons, List.length_nil]
  clear i1 i2 hb1 HRD
  go_wp2_with fail
  refine (HT.out _ _ (HB1.out.1.trans ((below_alloc _ _).mono HB1.out.1.size)) (HB1.out.2.below (below_alloc _ _))).mono ?_
  rintro e w2 ⟨rfl, hb2⟩
  obtain ⟨HS2⟩ : Nonempty (Hid (AB w1 w2 w1.heap.size _)) := ⟨(ab_start w1 _).on hb2⟩
  obtain ⟨a0, a1, a2, a3, a4⟩ := HS2.out.arg
  obtain ⟨HB2⟩ : Nonempty (Hid (Below w.heap.size w w2 ∧ IsAttr w2 _ toldA)) := ⟨⟨HB1.out.1.trans (HS2.out.2.mono HB1.out.1.size), HB1.out.2.below HS2.out.2⟩⟩
  clear hb2 HT
  go_wp2_with fail
  refine (HG.out _ _ HB2.out.2).mono ?_
  rintro e w3 ⟨rfl, hb3⟩
  obtain ⟨HB3⟩ : Nonempty (Hid (Below w.heap.size w w3)) := ⟨HB2.out.1.trans (hb3.mono HB2.out.1.size)⟩
  clear hb3
  go_wp2_with fail
  go_ret
  exact ⟨rfl, HB3.out⟩
end Go.Proofs.YtkebcfjofeoehaaGreatDoor
