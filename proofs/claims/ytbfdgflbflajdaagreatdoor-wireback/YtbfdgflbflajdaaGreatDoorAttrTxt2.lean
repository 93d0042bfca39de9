/-
  Package attr's Text: what it returns.
-/
import Derived.Test.YtbfdgflbflajdaaGreatDoorGM
namespace Go.Proofs.YtbfdgflbflajdaaGreatDoor
open Go.RowKit

theorem AB.args {w wr : World} {B : Nat} {a b c d e : Value} (h : AB w wr B #[a, b, c, d, e]) : wr.cell? ⟨B, 0, none⟩ = some a ∧ wr.cell? ⟨B, 1, none⟩ = some b ∧ wr.cell? ⟨B, 2, none⟩ = some c ∧ wr.cell? ⟨B, 3, none⟩ = some d ∧ wr.cell? ⟨B, 4, none⟩ = some e := h.arg
theorem AB.env {w wr : World} {B : Nat} {va : Array Value} {E : Nat → Addr} {m : Int} (h : AB w wr B va) (hB : w.heap.size = B) (hE : AttrEnv w E m) : AttrEnv wr E m := hE.below (by rw [hB]; exact h.2)

set_option linter.unusedVariables false in
set_option maxRecDepth 100000 in
set_option maxHeartbeats 2000000 in
theorem text_bad (v : Value) (A : At) (E : Nat → Addr) (m : Int) (w : World) (hE : AttrEnv w E m) (h : IsAttr w v A) (h1 : A.path.length ≤ 1000000) (h2 : A.tags.length ≤ 1000000) (hf : 0 < (faultA A).1) :
    Calls Tryz.prog 9 #[v] w fun r w' => r = .returned (.string ⟨#[]⟩) ∧ Below w.heap.size w w' := by
  have HC : Hid (∀ w', Below w.heap.size w w' → Calls _ _ _ _ _) := fun w' hb => aCheck_any v A E m w' (hE.below hb) (h.below hb) h1 h2
  obtain ⟨c, hc⟩ : ∃ c, Hid ((faultA A).1.toNat = c) := ⟨_, show _ = _ from rfl⟩
  obtain ⟨d, hd⟩ : ∃ c, Hid ((faultA A).2 = c) := ⟨_, show _ = _ from rfl⟩
  rw [show (faultA A).1.toNat = c from hc.out, show (faultA A).2 = d from hd.out] at HC
  have hpos : ¬ c = 0 := by rw [← hc.out]; omega
  obtain ⟨p, cp, q, cq, rfl, -, -⟩ := h
  obtain ⟨P, f, n, o, T⟩ := A
  simp only at *
  clear hf hE hc hd
  go_enter Tryz.func9, Tryz.ntmps9
  go_wp2_with fail
  refine (HC.out _ (below_alloc _ _)).mono ?_
  rintro e w1 ⟨⟨v1, rfl, hv1⟩, hb1⟩
  obtain ⟨HB1⟩ : Nonempty (Hid (Below w.heap.size w w1)) := ⟨(below_alloc _ _).trans (hb1.mono (below_alloc _ _).size)⟩
  rcases isErr_cases hv1 with ⟨rfl, rfl⟩ | ⟨-, t, a, rfl⟩
  · exact absurd rfl hpos
  clear hv1 hb1 HC
  go_wp2_with fail
  go_ret
  exact ⟨rfl, HB1.out⟩

set_option linter.unusedSimpArgs false in
set_option linter.unusedVariables false in
set_option maxRecDepth 100000 in
set_option maxHeartbeats 4000000 in
theorem text_right (v : Value) (A : At) (E : Nat → Addr) (m : Int) (w : World) (hE : AttrEnv w E m) (h : IsAttr w v A) (hA : RightA A) :
    Calls Tryz.prog 9 #[v] w fun r w' => r = .returned (.string ⟨(textA A).toArray⟩) ∧ Below w.heap.size w w' := by
  have hs := h
  obtain ⟨p, cp, q, cq, rfl, i1, i2⟩ := h
  have HC : Hid (∀ w', Below w.heap.size w w' → Calls _ _ _ _ _) := fun w' hb => aCheck_any _ A E m w' (hE.below hb) (hs.below hb) (by have := hA.path; omega) (by have := hA.tags; omega)
  rw [fault_of_right hA] at HC
  have rp : ∀ x ∈ A.path, -9223372036854775807 ≤ x ∧ x ≤ 9223372036854775807 := fun x hx => by have := hA.sys x hx; omega
  have rt : ∀ x ∈ A.tags, -9223372036854775807 ≤ x ∧ x ≤ 9223372036854775807 := fun x hx => by have := hA.tag x hx; omega
  obtain ⟨t0, ht0⟩ : ∃ l, Hid (joinN 45 A.path = l) := ⟨_, show _ = _ from rfl⟩
  obtain ⟨t1, ht1⟩ : ∃ l, Hid (Lib.itoa A.pref = l) := ⟨_, show _ = _ from rfl⟩
  obtain ⟨t2, ht2⟩ : ∃ l, Hid (Lib.itoa A.med = l) := ⟨_, show _ = _ from rfl⟩
  obtain ⟨t3, ht3⟩ : ∃ l, Hid (Lib.itoa A.org = l) := ⟨_, show _ = _ from rfl⟩
  obtain ⟨t4, ht4⟩ : ∃ l, Hid (joinN 44 A.tags = l) := ⟨_, show _ = _ from rfl⟩
  have HP : Hid (∀ w', Below w.heap.size w w' → Calls Tryz.prog 38 #[.slice p A.path.length cp, .string ⟨#[45]⟩] w' fun r w'' => r = .returned (.string ⟨t0.toArray⟩) ∧ Below w'.heap.size w' w'') := fun w' hb => by
    rw [← ht0.out]; exact listText_any p A.path 45 cp E m w' (hE.below hb) (i1.below hb) (by have := hA.path; omega) rp
  have HT : Hid (∀ w', Below w.heap.size w w' → Calls Tryz.prog 38 #[.slice q A.tags.length cq, .string ⟨#[44]⟩] w' fun r w'' => r = .returned (.string ⟨t4.toArray⟩) ∧ Below w'.heap.size w' w'') := fun w' hb => by
    rw [← ht4.out]; exact listText_any q A.tags 44 cq E m w' (hE.below hb) (i2.below hb) (by have := hA.tags; omega) rt
  have H1 : Hid (∀ w', Below w.heap.size w w' → Calls _ _ _ _ _) := fun w' hb => aItoa_any A.pref t1 ht1 E m w' (hE.below hb) (by have := hA.pref; omega) (by have := hA.pref; omega)
  have H2 : Hid (∀ w', Below w.heap.size w w' → Calls _ _ _ _ _) := fun w' hb => aItoa_any A.med t2 ht2 E m w' (hE.below hb) (by have := hA.med; omega) (by have := hA.med; omega)
  have H3 : Hid (∀ w', Below w.heap.size w w' → Calls _ _ _ _ _) := fun w' hb => aItoa_any A.org t3 ht3 E m w' (hE.below hb) (by have := hA.org; omega) (by have := hA.org; omega)
  have n0 : t0.length ≤ 300 := by rw [← ht0.out]; have := joinN_len 45 A.path rp; have := hA.path; omega
  have n4 : t4.length ≤ 300 := by rw [← ht4.out]; have := joinN_len 44 A.tags rt; have := hA.tags; omega
  have n1 : t1.length ≤ 21 := by rw [← ht1.out]; exact aItoa_len _ (by have := hA.pref; omega) (by have := hA.pref; omega)
  have n2 : t2.length ≤ 21 := by rw [← ht2.out]; exact aItoa_len _ (by have := hA.med; omega) (by have := hA.med; omega)
  have n3 : t3.length ≤ 21 := by rw [← ht3.out]; exact aItoa_len _ (by have := hA.org; omega) (by have := hA.org; omega)
  obtain ⟨s8, hs8⟩ : ∃ l, Hid (textA A = l) := ⟨_, show _ = _ from rfl⟩
  have eJ : Lib.join [t0, t1, t2, t3, t4] [32] = s8 := by
    rw [← hs8.out]
    unfold textA
    rw [ht0.out, ht1.out, ht2.out, ht3.out, ht4.out, Lib.join_cons]
    simp [Lib.joinTail]
  rw [show textA A = s8 from hs8.out]
  have HJ : Hid (∀ w', Calls Tryz.prog 37 #[.slice (some ⟨w'.heap.size, 0, none⟩) 5 5, .string ⟨#[32]⟩] (w'.alloc (.cells #[.string ⟨t0.toArray⟩, .string ⟨t1.toArray⟩, .string ⟨t2.toArray⟩, .string ⟨t3.toArray⟩, .string ⟨t4.toArray⟩] 9)) fun e w'' => e = .returned (.string ⟨s8.toArray⟩) ∧ Below w'.heap.size w' w'') := fun w' => by
    have hj := Tryz.strings_Join w'.heap.size 0 5 [⟨t0.toArray⟩, ⟨t1.toArray⟩, ⟨t2.toArray⟩, ⟨t3.toArray⟩, ⟨t4.toArray⟩] ⟨#[32]⟩ (w'.alloc (.cells #[.string ⟨t0.toArray⟩, .string ⟨t1.toArray⟩, .string ⟨t2.toArray⟩, .string ⟨t3.toArray⟩, .string ⟨t4.toArray⟩] 9)) (fun j x hjx => by
      rw [World.cell?_alloc_at _ _ _ _ rfl]
      match j, hjx with
      | 0, h => simp at h; subst h; rfl
      | 1, h => simp at h; subst h; rfl
      | 2, h => simp at h; subst h; rfl
      | 3, h => simp at h; subst h; rfl
      | 4, h => simp at h; subst h; rfl) (by simp) (by simp) (by simp) (by
      show (Lib.join [t0, t1, t2, t3, t4] [32]).length ≤ _
      rw [Lib.join_cons]; simp [Lib.joinTail]; omega)
    refine hj.mono ?_
    rintro e w'' ⟨rfl, hb⟩
    refine ⟨?_, (below_alloc _ _).trans (hb.mono (below_alloc _ _).size)⟩
    show Ending.returned (.string ⟨(Lib.join [t0, t1, t2, t3, t4] [32]).toArray⟩) = _
    rw [eJ]
  obtain ⟨HS⟩ : Nonempty (Hid (AB w _ _ _)) := ⟨ab_start w #[.slice p A.path.length cp, .int .i64 A.pref, .int .i64 A.med, .int .i64 A.org, .slice q A.tags.length cq]⟩
  obtain ⟨P, f, n, o, T⟩ := A
  simp only at *
  clear n0 n1 n2 n3 n4 rp rt hA hs i1 i2 eJ hE
  go_enter Tryz.func9, Tryz.ntmps9
  go_wp2_with fail
  refine (HC.out _ (below_alloc _ _)).mono ?_
  rintro e w1 ⟨⟨v1, rfl, hv1⟩, hb1⟩
  rcases isErr_cases hv1 with ⟨-, rfl⟩ | ⟨h0, -⟩
  case inr => exact absurd h0 (by simp)
  obtain ⟨HS1⟩ : Nonempty (Hid (AB w w1 w.heap.size _)) := ⟨HS.out.on hb1⟩
  obtain ⟨HD⟩ : Nonempty (Hid (AB w w1.drew w.heap.size _)) := ⟨HS1.out.on (Below.refl _ _).drew⟩
  clear hb1 HC HS hv1
  go_wp2_with fail
  refine wp_region_noPanic ?_
  refine wp_region_held_drew (S := (fun w' => w'.cell? ⟨w.heap.size, 0, none⟩ = some (.slice p P.length cp) ∧ w'.cell? ⟨w.heap.size, 1, none⟩ = some (.int .i64 f) ∧ w'.cell? ⟨w.heap.size, 2, none⟩ = some (.int .i64 n) ∧ w'.cell? ⟨w.heap.size, 3, none⟩ = some (.int .i64 o) ∧ w'.cell? ⟨w.heap.size, 4, none⟩ = some (.slice q T.length cq))) (by kernel_rfl) ?_ (fun hHeld => ?_)
  · exact HD.out.arg
  refine wpAnyH_take (i := 0) (v := ?_) rfl (by kernel_rfl) (by kernel_rfl) (by kernel_rfl) (fun _ _ _ h => h) (Or.inl ⟨by rfl, ?_⟩) (by assumption) ?_
  rotate_left
  · (intro w hSw; (try dsimp only at hSw); go_simp; try (with_reducible rfl))
  try simp only [Act.put, List.setIfInBounds_toArray, List.set_cons_zero, List.set_cons_succ, List.getElem_toArray, List.getElem_cons_zero, List.getElem_cons_succ]
  refine wpAnyH_take (i := 1) (v := ?_) rfl (by kernel_rfl) (by kernel_rfl) (by kernel_rfl) (fun _ _ _ h => h) (Or.inl ⟨by rfl, ?_⟩) (by assumption) ?_
  rotate_left
  · (intro w hSw; (try dsimp only at hSw); go_simp; try (with_reducible rfl))
  try simp only [Act.put, List.setIfInBounds_toArray, List.set_cons_zero, List.set_cons_succ, List.getElem_toArray, List.getElem_cons_zero, List.getElem_cons_succ]
  refine wpAnyH_take (i := 3) (v := ?_) rfl (by kernel_rfl) (by kernel_rfl) (by kernel_rfl) (fun _ _ _ h => h) (Or.inl ⟨by rfl, ?_⟩) (by assumption) ?_
  rotate_left
  · (intro w hSw; (try dsimp only at hSw); go_simp; try (with_reducible rfl))
  try simp only [Act.put, List.setIfInBounds_toArray, List.set_cons_zero, List.set_cons_succ, List.getElem_toArray, List.getElem_cons_zero, List.getElem_cons_succ]
  refine wpAnyH_take (i := 4) (v := ?_) rfl (by kernel_rfl) (by kernel_rfl) (by kernel_rfl) (fun _ _ _ h => h) (Or.inl ⟨by rfl, ?_⟩) (by assumption) ?_
  rotate_left
  · (intro w hSw; (try dsimp only at hSw); go_simp; try (with_reducible rfl))
  try simp only [Act.put, List.setIfInBounds_toArray, List.set_cons_zero, List.set_cons_succ, List.getElem_toArray, List.getElem_cons_zero, List.getElem_cons_succ]
  refine wpAnyH_take (i := 6) (v := ?_) rfl (by kernel_rfl) (by kernel_rfl) (by kernel_rfl) (fun _ _ _ h => h) (Or.inl ⟨by rfl, ?_⟩) (by assumption) ?_
  rotate_left
  · (intro w hSw; (try dsimp only at hSw); go_simp; try (with_reducible rfl))
  try simp only [Act.put, List.setIfInBounds_toArray, List.set_cons_zero, List.set_cons_succ, List.getElem_toArray, List.getElem_cons_zero, List.getElem_cons_succ]
  refine wpAnyH_take (i := 7) (v := ?_) rfl (by kernel_rfl) (by kernel_rfl) (by kernel_rfl) (fun _ _ _ h => h) (Or.inl ⟨by rfl, ?_⟩) (by assumption) ?_
  rotate_left
  · (intro w hSw; (try dsimp only at hSw); go_simp; try (with_reducible rfl))
  try simp only [Act.put, List.setIfInBounds_toArray, List.set_cons_zero, List.set_cons_succ, List.getElem_toArray, List.getElem_cons_zero, List.getElem_cons_succ]
  refine wpAnyH_take (i := 9) (v := ?_) rfl (by kernel_rfl) (by kernel_rfl) (by kernel_rfl) (fun _ _ _ h => h) (Or.inl ⟨by rfl, ?_⟩) (by assumption) ?_
  rotate_left
  · (intro w hSw; (try dsimp only at hSw); go_simp; try (with_reducible rfl))
  try simp only [Act.put, List.setIfInBounds_toArray, List.set_cons_zero, List.set_cons_succ, List.getElem_toArray, List.getElem_cons_zero, List.getElem_cons_succ]
  refine wpAnyH_take (i := 10) (v := ?_) rfl (by kernel_rfl) (by kernel_rfl) (by kernel_rfl) (fun _ _ _ h => h) (Or.inl ⟨by rfl, ?_⟩) (by assumption) ?_
  rotate_left
  · (intro w hSw; (try dsimp only at hSw); go_simp; try (with_reducible rfl))
  try simp only [Act.put, List.setIfInBounds_toArray, List.set_cons_zero, List.set_cons_succ, List.getElem_toArray, List.getElem_cons_zero, List.getElem_cons_succ]
  refine wpAnyH_take (i := 12) (v := ?_) rfl (by kernel_rfl) (by kernel_rfl) (by kernel_rfl) (fun _ _ _ h => h) (Or.inl ⟨by rfl, ?_⟩) (by assumption) ?_
  rotate_left
  · (intro w hSw; (try dsimp only at hSw); go_simp; try (with_reducible rfl))
  try simp only [Act.put, List.setIfInBounds_toArray, List.set_cons_zero, List.set_cons_succ, List.getElem_toArray, List.getElem_cons_zero, List.getElem_cons_succ]
  refine wpAnyH_take (i := 13) (v := ?_) rfl (by kernel_rfl) (by kernel_rfl) (by kernel_rfl) (fun _ _ _ h => h) (Or.inl ⟨by rfl, ?_⟩) (by assumption) ?_
  rotate_left
  · (intro w hSw; (try dsimp only at hSw); go_simp; try (with_reducible rfl))
  try simp only [Act.put, List.setIfInBounds_toArray, List.set_cons_zero, List.set_cons_succ, List.getElem_toArray, List.getElem_cons_zero, List.getElem_cons_succ]
  refine wpAnyH_ready (rs := [2]) (by kernel_rfl) (by simp) ?_
  refine AllReadyH.cons rfl (fun K hK => ?_) AllReadyH.nil
  go_simp
  refine (HP.out _ HD.out.2).mono ?_
  rintro e w2 ⟨rfl, hb1⟩
  obtain ⟨HS2⟩ : Nonempty (Hid (AB w w2 w.heap.size _)) := ⟨HD.out.on hb1⟩
  clear hb1
  refine hK.out _ _ ?_ (fun hHeld => ?_)
  · exact HS2.out.arg
  clear hK K
  try simp only [Act.put, List.setIfInBounds_toArray, List.set_cons_zero, List.set_cons_succ, List.getElem_toArray, List.getElem_cons_zero, List.getElem_cons_succ]
  refine wpAnyH_ready (rs := [5]) (by kernel_rfl) (by simp) ?_
  refine AllReadyH.cons rfl (fun K hK => ?_) AllReadyH.nil
  go_simp
  refine (H1.out _ HS2.out.2).mono ?_
  rintro e w3 ⟨rfl, hb1⟩
  obtain ⟨HS3⟩ : Nonempty (Hid (AB w w3 w.heap.size _)) := ⟨HS2.out.on hb1⟩
  clear hb1
  refine hK.out _ _ ?_ (fun hHeld => ?_)
  · exact HS3.out.arg
  clear hK K
  try simp only [Act.put, List.setIfInBounds_toArray, List.set_cons_zero, List.set_cons_succ, List.getElem_toArray, List.getElem_cons_zero, List.getElem_cons_succ]
  refine wpAnyH_ready (rs := [8]) (by kernel_rfl) (by simp) ?_
  refine AllReadyH.cons rfl (fun K hK => ?_) AllReadyH.nil
  go_simp
  refine (H2.out _ HS3.out.2).mono ?_
  rintro e w4 ⟨rfl, hb1⟩
  obtain ⟨HS4⟩ : Nonempty (Hid (AB w w4 w.heap.size _)) := ⟨HS3.out.on hb1⟩
  clear hb1
  refine hK.out _ _ ?_ (fun hHeld => ?_)
  · exact HS4.out.arg
  clear hK K
  try simp only [Act.put, List.setIfInBounds_toArray, List.set_cons_zero, List.set_cons_succ, List.getElem_toArray, List.getElem_cons_zero, List.getElem_cons_succ]
  refine wpAnyH_ready (rs := [11]) (by kernel_rfl) (by simp) ?_
  refine AllReadyH.cons rfl (fun K hK => ?_) AllReadyH.nil
  go_simp
  refine (H3.out _ HS4.out.2).mono ?_
  rintro e w5 ⟨rfl, hb1⟩
  obtain ⟨HS5⟩ : Nonempty (Hid (AB w w5 w.heap.size _)) := ⟨HS4.out.on hb1⟩
  clear hb1
  refine hK.out _ _ ?_ (fun hHeld => ?_)
  · exact HS5.out.arg
  clear hK K
  try simp only [Act.put, List.setIfInBounds_toArray, List.set_cons_zero, List.set_cons_succ, List.getElem_toArray, List.getElem_cons_zero, List.getElem_cons_succ]
  refine wpAnyH_ready (rs := [14]) (by kernel_rfl) (by simp) ?_
  refine AllReadyH.cons rfl (fun K hK => ?_) AllReadyH.nil
  go_simp
  refine (HT.out _ HS5.out.2).mono ?_
  rintro e w6 ⟨rfl, hb1⟩
  obtain ⟨HS6⟩ : Nonempty (Hid (AB w w6 w.heap.size _)) := ⟨HS5.out.on hb1⟩
  clear hb1
  refine hK.out _ _ ?_ (fun hHeld => ?_)
  · exact HS6.out.arg
  clear hK K
  try simp only [Act.put, List.setIfInBounds_toArray, List.set_cons_zero, List.set_cons_succ, List.getElem_toArray, List.getElem_cons_zero, List.getElem_cons_succ]
  refine wpAnyH_ready (rs := [15]) (by kernel_rfl) (by simp) ?_
  refine AllReadyH.cons rfl (fun K hK => ?_) AllReadyH.nil
  go_simp
  refine hK.out _ _ ?_ (fun hHeld => ?_)
  · exact (HS6.out.on (below_alloc _ _)).arg
  clear hK K
  try simp only [Act.put, List.setIfInBounds_toArray, List.set_cons_zero, List.set_cons_succ, List.getElem_toArray, List.getElem_cons_zero, List.getElem_cons_succ]
  refine wpAnyH_ready (rs := [16]) (by kernel_rfl) (by simp) ?_
  refine AllReadyH.cons rfl (fun K hK => ?_) AllReadyH.nil
  go_simp
  refine (HJ.out w6).mono ?_
  rintro e w7 ⟨rfl, hb1⟩
  obtain ⟨HS7⟩ : Nonempty (Hid (AB w w7 w.heap.size _)) := ⟨HS6.out.on hb1⟩
  clear hb1
  refine hK.out _ _ ?_ (fun hHeld => ?_)
  · exact HS7.out.arg
  clear hK K
  try simp only [Act.put, List.setIfInBounds_toArray, List.set_cons_zero, List.set_cons_succ, List.getElem_toArray, List.getElem_cons_zero, List.getElem_cons_succ]
  refine wpAnyH_take (i := 17) (v := ?_) rfl (by kernel_rfl) (by kernel_rfl) (by kernel_rfl) (fun _ _ _ h => h) (Or.inl ⟨by rfl, ?_⟩) (by assumption) ?_
  rotate_left
  · (intro w hSw; (try dsimp only at hSw); go_simp; try (with_reducible rfl))
  try simp only [Act.put, List.setIfInBounds_toArray, List.set_cons_zero, List.set_cons_succ, List.getElem_toArray, List.getElem_cons_zero, List.getElem_cons_succ]
  refine wpAnyH_done (by kernel_rfl) ?_ _
  refine NoPanic.normal ?_
  clear hHeld
  go_wp2_with fail
  go_ret
  exact ⟨rfl, HS7.out.2⟩
end Go.Proofs.YtbfdgflbflajdaaGreatDoor
