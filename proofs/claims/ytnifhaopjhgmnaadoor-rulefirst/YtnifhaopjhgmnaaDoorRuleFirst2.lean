/-
  RuleFirst: one that does not fit changes nothing; one more for all.
-/
import Derived.Test.YtnifhaopjhgmnaaDoorRuleFirst1
import Derived.Deep.Cut
import Derived.Deep.CutRange
import Derived.Deep.RegionHeld
namespace Go.Proofs.YtnifhaopjhgmnaaDoor
open Go.RowKit

theorem ruleZ_row (w : World) : Rules (w.alloc (.cells #[.int .i64 0, .int .i64 0, .int .i64 0, .int .i64 32, .int .i64 0, .int .i64 0, .bool false, .int .i64 (-1), .int .i64 (-1), .int .i64 0, .int .i64 0] 37)) (some ⟨w.heap.size, 0, none⟩) [ruleZ] := fun i hi => by
  refine ⟨w.heap.size, 0, rfl, fun k v hk => ?_⟩
  have hk11 : k < 11 := by have := (List.getElem?_eq_some_iff.1 hk).1; simpa [encR] using this
  rw [World.cell?_alloc_at _ _ _ _ rfl, Nat.zero_add]
  have := flatR_get [ruleZ] i k hi hk11
  rw [hk] at this
  simpa [flatR, encR, ruleZ] using this

set_option linter.unusedSimpArgs false in
set_option linter.unusedVariables false in
set_option maxRecDepth 100000 in
set_option maxHeartbeats 8000000 in
theorem first_misses (p : Option Addr) (L : List Rl) (cp : Nat) (x ta tn : Int) (k : Nat) (v : Value) (A : At) (E : Nat → Addr) (m : Int) (w : World) (hE : RuleEnv w E m) (h : Rules w p L) (hkd : KindR p L.length cp) (hcap : L.length ≤ cp ∧ cp ≤ maxLen) (ha : AttrK w v A) (h9 : L.length ≤ 9) (hlg : longA A = false) (hk : k < L.length)
    (h0 : (rulesC L).1 = 0) (hf : fitsB (ruleN L k) ta tn A = false) :
    Calls Tryd.prog 3 #[.slice p L.length cp, .int .i64 x, .agg #[.int .i64 ta, .int .i64 tn], v, .int .i64 (k : Int)] w fun r w' => r = .returned (.bool true) ∧ Below w.heap.size w w' := by
  have ha0 := ha
  have hla : A.path.length ≤ 20 ∧ A.tags.length ≤ 15 := by
    simp only [longA, Bool.or_eq_false_iff, decide_eq_false_iff_not] at hlg
    omega
  obtain ⟨p0, cp0, q0, cq0, rfl, -, -, -, -⟩ := ha
  obtain ⟨HRU⟩ : Nonempty (Hid (∀ w', Below w.heap.size w w' → Calls _ _ _ _ _)) := ⟨fun w' hb => ruled_any E m w' (hE.below hb)⟩
  obtain ⟨HLG⟩ : Nonempty (Hid (∀ w', Below w.heap.size w w' → Calls _ _ _ _ _)) := ⟨fun w' hb => rLongAttr_any (.agg #[.slice p0 A.path.length cp0, .int .i64 A.pref, .int .i64 A.med, .int .i64 A.org, .slice q0 A.tags.length cq0]) A w' (ha0.below hb).attr⟩
  simp only [hlg] at HLG
  obtain ⟨HT⟩ : Nonempty (Hid (TB w _ w.heap.size ta tn #[.slice p0 A.path.length cp0, .int .i64 A.pref, .int .i64 A.med, .int .i64 A.org, .slice q0 A.tags.length cq0])) := ⟨tb_start w ta tn _⟩
  obtain ⟨HAP⟩ : Nonempty (Hid (∀ w', Below w.heap.size w w' → Calls _ _ _ _ _)) := ⟨fun w' hb => apply_any p L cp x ta tn (.agg #[.slice p0 A.path.length cp0, .int .i64 A.pref, .int .i64 A.med, .int .i64 A.org, .slice q0 A.tags.length cq0]) A E m w' (hE.below hb) (h.below hb) (ha0.below hb) (by omega) (by omega) (by omega)⟩
  obtain ⟨HCK⟩ : Nonempty (Hid (∀ w', Below w.heap.size w w' → Calls _ _ _ _ _)) := ⟨fun w' hb => rCheck_any p L cp E m w' (hE.below hb) (h.below hb) (by omega)⟩
  obtain ⟨AM, hAM⟩ : ∃ a, Hid (appA L x ta tn A = a) := ⟨_, show _ = _ from rfl⟩
  obtain ⟨bM, hbM⟩ : ∃ a, Hid (appB L x ta tn A = a) := ⟨_, show _ = _ from rfl⟩
  obtain ⟨cM, hcM⟩ : ∃ a, Hid ((appC L x ta tn A).1 = a) := ⟨_, show _ = _ from rfl⟩
  obtain ⟨dM, hdM⟩ : ∃ a, Hid ((appC L x ta tn A).2 = a) := ⟨_, show _ = _ from rfl⟩
  obtain ⟨cR, hcR⟩ : ∃ a, Hid ((rulesC L).1 = a) := ⟨_, show _ = _ from rfl⟩
  obtain ⟨dR, hdR⟩ : ∃ a, Hid ((rulesC L).2 = a) := ⟨_, show _ = _ from rfl⟩
  simp only [show appA L x ta tn A = AM from hAM.out, show appB L x ta tn A = bM from hbM.out, show (appC L x ta tn A).1 = cM from hcM.out, show (appC L x ta tn A).2 = dM from hdM.out] at HAP
  simp only [show (rulesC L).1 = cR from hcR.out, show (rulesC L).2 = dR from hdR.out] at HCK
  obtain ⟨HFT⟩ : Nonempty (Hid (∀ w', Below w.heap.size w w' → Calls _ _ _ _ _)) := ⟨fun w' hb => fits_any (ruleN L k) ta tn (.agg #[.slice p0 A.path.length cp0, .int .i64 A.pref, .int .i64 A.med, .int .i64 A.org, .slice q0 A.tags.length cq0]) A E m w' (hE.below hb) (ha0.below hb).attr (by omega) (by omega)⟩
  obtain ⟨b0, o0, rfl, x0⟩ := h k hk
  rw [← ruleN_at L k hk] at x0
  obtain ⟨HX0⟩ : Nonempty (Hid (∀ w', Below w.heap.size w w' → RuleAt w' b0 (o0 + k * 11) (ruleN L k))) := ⟨fun w' hb => x0.below hb⟩
  obtain ⟨r, hr⟩ : ∃ r, Hid (ruleN L k = r) := ⟨_, show _ = _ from rfl⟩
  obtain ⟨HZ⟩ : Nonempty (Hid (cR = 0)) := ⟨by rw [← hcR.out]; exact h0⟩
  have hal := appA_len L x ta tn A hla.1 hla.2
  rw [show appA L x ta tn A = AM from hAM.out] at hal
  obtain ⟨HSM⟩ : Nonempty (Hid (∀ u u' w', IsAttr w' u AM → IsAttr w' u' AM → Calls Tryd.prog 9 #[u, u'] w' fun r w'' => r = .returned (.bool true) ∧ Below w'.heap.size w' w'')) := ⟨fun u u' w' h1 h2 => by
    have := same_any u u' AM AM w' h1 h2 (by omega) (by omega) (by omega) (by omega)
    simpa using this⟩
  rw [hf] at HFT
  simp only [show ruleN L k = r from hr.out] at HFT HX0
  unfold rlV at HFT
  obtain ⟨M, hM⟩ : ∃ M, Hid (L.take k ++ L.drop (k + 1) = M) := ⟨_, show _ = _ from rfl⟩
  obtain ⟨n1, hn1⟩ : ∃ n, Hid (L.length - 1 = n) := ⟨_, show _ = _ from rfl⟩
  have hMl : M.length = n1 := by rw [← hM.out, ← hn1.out]; simp; omega
  obtain ⟨HAL⟩ : Nonempty (Hid (∀ pm cm w', Below w.heap.size w w' → Rules w' pm M → Calls _ _ _ _ _)) := ⟨fun pm cm w' hb hr => apply_any pm M cm x ta tn (.agg #[.slice p0 A.path.length cp0, .int .i64 A.pref, .int .i64 A.med, .int .i64 A.org, .slice q0 A.tags.length cq0]) A E m w' (hE.below hb) hr (ha0.below hb) (by have := hn1.out; omega) (by omega) (by omega)⟩
  obtain ⟨HFF⟩ : Nonempty (Hid (L.length ≠ 1 → (appC M x ta tn A).1 = cM ∧ (appC M x ta tn A).2 = dM ∧ appB M x ta tn A = bM ∧ appA M x ta tn A = AM)) := ⟨fun hn => by
    have := first_miss x h0 hk hf hn
    rw [← hM.out, this.1, this.2.1, this.2.2]
    exact ⟨hcM.out, hdM.out, hbM.out, hAM.out⟩⟩
  obtain ⟨HF1⟩ : Nonempty (Hid (L.length = 1 → bM = false)) := ⟨fun hn => by rw [← hbM.out]; exact first_one x hk hf hn⟩
  rw [hMl] at HAL
  have htl : (L.take k).length = k := by simp; omega
  have hdl : (L.drop (k + 1)).length = L.length - (k + 1) := by simp
  obtain ⟨HTK⟩ : Nonempty (Hid (∀ w', Below w.heap.size w w' → Rules w' (some ⟨b0, o0, none⟩) (L.take k))) := ⟨fun w' hb => (h.take k).below hb⟩
  obtain ⟨HDR⟩ : Nonempty (Hid (∀ w', Below w.heap.size w w' → Rules w' (some ⟨b0, o0 + (k + 1) * 11, none⟩) (L.drop (k + 1)))) := ⟨fun w' hb => (h.drop (k + 1)).below hb⟩
  obtain ⟨HD0⟩ : Nonempty (Hid (∀ w', cp = k + 1 → Rules w' (some ⟨b0, o0, none⟩) (L.drop (k + 1)))) := ⟨fun w' e => by
    have : L.drop (k + 1) = [] := List.eq_nil_of_length_eq_zero (by omega)
    rw [this]; exact rules_nil _ _⟩
  obtain ⟨M1, hM1⟩ : ∃ M, Hid ([] ++ L.take k = M) := ⟨_, show _ = _ from rfl⟩
  obtain ⟨M2, hM2⟩ : ∃ M, Hid (L.drop (k + 1) = M) := ⟨_, show _ = _ from rfl⟩
  have hM12 : Hid (M1 ++ M2 = M) := by
    show M1 ++ M2 = M
    rw [← hM1.out, ← hM2.out, ← hM.out]; rfl
  obtain ⟨HML⟩ : Nonempty (Hid (M1.length = k ∧ M.length = n1)) := ⟨⟨by rw [← hM1.out]; simp; omega, hMl⟩⟩
  rw [show L.drop (k + 1) = M2 from hM2.out] at HDR HD0 hdl
  have kq4 : (k : Int) ≤ 8 := by omega
  have kq5 : (k : Int) + 1 ≤ cp := by omega
  have kq6 : cp ≤ maxLen := hcap.2
  have kq7 : (k : Int) ≤ cp := by omega
  have kq8 : (k : Int) + 1 ≤ L.length := by omega
  have hw : IntKind.i64.wrap ((k : Int) + 1) = (k : Int) + 1 := IntWalk.i64_in _ (by omega)
  have hz : (0 : Int) ≤ (k : Int) + 1 := by omega
  have kq9 : k ≤ cp := by omega
  have kq10 : k + 1 ≤ L.length := hk
  obtain ⟨i0, hi, hz0, hz1, hz2⟩ := infoRule
  obtain ⟨MZ, hMZ⟩ : ∃ M, Hid (L ++ [ruleZ] = M) := ⟨_, show _ = _ from rfl⟩
  obtain ⟨HOR⟩ : Nonempty (Hid (∀ w', Below w.heap.size w w' → Calls _ _ _ _ _)) := ⟨fun w' hb => ownRules_any L (some ⟨b0, o0, none⟩) cp w' (h.below hb) (.inr ⟨_, rfl⟩) (by omega)⟩
  obtain ⟨HSY⟩ : Nonempty (Hid (True)) := ⟨trivial⟩
  obtain ⟨HAK⟩ : Nonempty (Hid (∀ w', Below w.heap.size w w' → AttrK w' (.agg #[.slice p0 A.path.length cp0, .int .i64 A.pref, .int .i64 A.med, .int .i64 A.org, .slice q0 A.tags.length cq0]) A)) := ⟨fun w' hb => ha0.below hb⟩
  obtain ⟨HAZ⟩ : Nonempty (Hid (∀ pm cm w', Below w.heap.size w w' → Rules w' pm MZ → Calls _ _ _ _ _)) := ⟨fun pm cm w' hb hr => apply_any pm MZ cm x ta tn (.agg #[.slice p0 A.path.length cp0, .int .i64 A.pref, .int .i64 A.med, .int .i64 A.org, .slice q0 A.tags.length cq0]) A E m w' (hE.below hb) hr (ha0.below hb) (by rw [← hMZ.out, List.length_append]; show L.length + 1 ≤ 1000000; omega) (by omega) (by omega)⟩
  obtain ⟨aZ, haZ⟩ : ∃ a, Hid (appA MZ x ta tn A = a) := ⟨_, show _ = _ from rfl⟩
  obtain ⟨bZ, hbZ⟩ : ∃ a, Hid (appB MZ x ta tn A = a) := ⟨_, show _ = _ from rfl⟩
  obtain ⟨cZ, hcZ⟩ : ∃ a, Hid ((appC MZ x ta tn A).1 = a) := ⟨_, show _ = _ from rfl⟩
  obtain ⟨dZ, hdZ⟩ : ∃ a, Hid ((appC MZ x ta tn A).2 = a) := ⟨_, show _ = _ from rfl⟩
  simp only [show appA MZ x ta tn A = aZ from haZ.out, show appB MZ x ta tn A = bZ from hbZ.out, show (appC MZ x ta tn A).1 = cZ from hcZ.out, show (appC MZ x ta tn A).2 = dZ from hdZ.out] at HAZ
  obtain ⟨HSN⟩ : Nonempty (Hid ((bM = true → bZ = true ∧ cZ = 0 ∧ AM = aZ) ∧ (bM = false → 0 < cZ ∨ bZ = false ∨ A = aZ))) := ⟨by
    have hs := first_snoc (ta := ta) (tn := tn) (A := A) x h0 (by omega) h9
    rw [show L ++ [ruleZ] = MZ from hMZ.out] at hs
    rw [← hbM.out, ← hbZ.out, ← hcZ.out, ← haZ.out, ← hAM.out]
    exact ⟨fun h => ⟨(hs.1 h).2.1, (hs.1 h).2.2.1, (hs.1 h).2.2.2.symm⟩, fun h => (hs.2 h).imp id (Or.imp id Eq.symm)⟩⟩
  obtain ⟨HSA⟩ : Nonempty (Hid (∀ u u' w', IsAttr w' u A → IsAttr w' u' A → Calls Tryd.prog 9 #[u, u'] w' fun r w'' => r = .returned (.bool true) ∧ Below w'.heap.size w' w'')) := ⟨fun u u' w' h1 h2 => by
    have := same_any u u' A A w' h1 h2 (by omega) (by omega) (by omega) (by omega)
    simpa using this⟩
  obtain ⟨HINF⟩ : Nonempty (Hid (Tryd.prog.info? 37 = some i0)) := ⟨hi⟩
  have h9' : decide (9 < (L.length : Int)) = false := decide_eq_false (by omega)
  have hneg' : decide ((k : Int) < 0) = false := decide_eq_false (by omega)
  have hge' : decide ((L.length : Int) ≤ (k : Int)) = false := decide_eq_false (by omega)
  have q3 : (k : Int) < L.length := by omega
  obtain ⟨B, hB⟩ : ∃ B, Hid (w.heap.size = B) := ⟨_, show _ = _ from rfl⟩
  clear hE h hkd ha0 hlg hla hf hr h0 hcap x0 hal hAM hbM hcM hdM hcR hdR hi hMl haZ hbZ hcZ hdZ
  go_enter Tryd.func3, Tryd.ntmps3
  go_wp2_with fail
  refine (HRU.out _ HT.out.2.2).mono ?_
  rintro e w1 ⟨rfl, hb1⟩
  obtain ⟨HT1⟩ : Nonempty (Hid (TB w w1 w.heap.size ta tn #[.slice p0 A.path.length cp0, .int .i64 A.pref, .int .i64 A.med, .int .i64 A.org, .slice q0 A.tags.length cq0])) := ⟨HT.out.on hb1⟩
  obtain ⟨a0, a1, a2, a3, a4⟩ := HT1.out.arg
  clear hb1 HT
  go_wp2_with fail
  refine (HLG.out w1 HT1.out.2.2).mono ?_
  rintro e w2 ⟨rfl, hb2⟩
  obtain ⟨HT2⟩ : Nonempty (Hid (TB w w2 w.heap.size ta tn #[.slice p0 A.path.length cp0, .int .i64 A.pref, .int .i64 A.med, .int .i64 A.org, .slice q0 A.tags.length cq0])) := ⟨HT1.out.on hb2⟩
  clear hb2 HT1 a0 a1 a2 a3 a4 HLG HRU
  obtain ⟨a0, a1⟩ := HT2.out.pre
  obtain ⟨b0, b1, b2, b3, b4⟩ := HT2.out.arg
  go_wp2_with fail
  refine (HAP.out w2 HT2.out.2.2).mono ?_
  rintro e w3 ⟨⟨v3, u, rfl, hg3, hu3⟩, hb3⟩
  have hk3 := hg3.attrK
  obtain ⟨p5, cp5, q5, cq5, rfl, -, -, -, -⟩ := hg3.attrK
  obtain ⟨O, hO⟩ : ∃ b, Hid (w3.heap.size = b) := ⟨_, show _ = _ from rfl⟩
  obtain ⟨W4, hW4⟩ : ∃ y, Hid (w3.alloc (.cells #[.slice p5 AM.path.length cp5, .int .i64 AM.pref, .int .i64 AM.med, .int .i64 AM.org, .slice q5 AM.tags.length cq5] 27) = y) := ⟨_, show _ = _ from rfl⟩
  obtain ⟨HS4⟩ : Nonempty (Hid (SX w W4 w.heap.size O ta tn #[.slice p0 A.path.length cp0, .int .i64 A.pref, .int .i64 A.med, .int .i64 A.org, .slice q0 A.tags.length cq0] #[.slice p5 AM.path.length cp5, .int .i64 AM.pref, .int .i64 AM.med, .int .i64 AM.org, .slice q5 AM.tags.length cq5] AM E u cM dM)) := ⟨by rw [← show w3.alloc (.cells #[.slice p5 AM.path.length cp5, .int .i64 AM.pref, .int .i64 AM.med, .int .i64 AM.org, .slice q5 AM.tags.length cq5] 27) = W4 from hW4.out, ← show w3.heap.size = O from hO.out]; exact sx_new (HT2.out.on hb3) hk3 hu3⟩
  clear hb3 hg3 hu3 hk3 HT2 a0 a1 b0 b1 b2 b3 b4 HAP
  go_wp2_with fail
  rw [show w3.alloc (.cells #[.slice p5 AM.path.length cp5, .int .i64 AM.pref, .int .i64 AM.med, .int .i64 AM.org, .slice q5 AM.tags.length cq5] 27) = W4 from hW4.out, show w3.heap.size = O from hO.out]
  clear hW4 hO
  refine (HCK.out W4 HS4.out.1.2.2).mono ?_
  rintro e w5 ⟨⟨u5, rfl, hu5⟩, hb5⟩
  obtain ⟨HS5⟩ : Nonempty (Hid (SX w w5 w.heap.size O ta tn #[.slice p0 A.path.length cp0, .int .i64 A.pref, .int .i64 A.med, .int .i64 A.org, .slice q0 A.tags.length cq0] #[.slice p5 AM.path.length cp5, .int .i64 AM.pref, .int .i64 AM.med, .int .i64 AM.org, .slice q5 AM.tags.length cq5] AM E u cM dM)) := ⟨HS4.out.on hb5⟩
  clear hb5 HCK
  obtain rfl : u5 = .nilIface := by
    rcases isErr_cases hu5 with ⟨-, h⟩ | ⟨h, -⟩
    · exact h
    · have := HZ.out; omega
  clear hu5 HZ HS4
  go_upto_region 7 with fail
  refine wp_region_noPanic ?_
  refine wp_region_held_drew (S := (fun w' => SX w w' w.heap.size O ta tn #[.slice p0 A.path.length cp0, .int .i64 A.pref, .int .i64 A.med, .int .i64 A.org, .slice q0 A.tags.length cq0] #[.slice p5 AM.path.length cp5, .int .i64 AM.pref, .int .i64 AM.med, .int .i64 AM.org, .slice q5 AM.tags.length cq5] AM E u cM dM ∧ RuleAt w' b0 (o0 + k * 11) r)) (by kernel_rfl) ?_ (fun hHeld => ?_)
  · exact ⟨HS5.out.on (Below.refl _ _).drew, HX0.out _ (HS5.out.on (Below.refl _ _).drew).1.2.2⟩
  refine wpAnyH_take (i := 0) (v := ?_) rfl (by kernel_rfl) (by kernel_rfl) (by kernel_rfl) (fun _ _ _ h => h) (Or.inl ⟨by rfl, ?_⟩) (by assumption) ?_
  rotate_left
  · (intro w hSw; (try dsimp only at hSw); go_simp; try (with_reducible rfl))
  try simp only [Act.put, List.setIfInBounds_toArray, List.set_cons_zero, List.set_cons_succ, List.getElem_toArray, List.getElem_cons_zero, List.getElem_cons_succ]
  refine wpAnyH_take (i := 1) (v := ?_) rfl (by kernel_rfl) (by kernel_rfl) (by kernel_rfl) (fun _ _ _ h => h) (Or.inl ⟨by rfl, ?_⟩) (by assumption) ?_
  rotate_left
  · (intro w hSw; (try dsimp only at hSw); go_simp; try (with_reducible rfl))
  try simp only [Act.put, List.setIfInBounds_toArray, List.set_cons_zero, List.set_cons_succ, List.getElem_toArray, List.getElem_cons_zero, List.getElem_cons_succ]
  refine wpAnyH_take (i := 2) (v := ?_) rfl (by kernel_rfl) (by kernel_rfl) (by kernel_rfl) (fun _ _ _ h => h) (Or.inl ⟨by rfl, ?_⟩) (by assumption) ?_
  rotate_left
  · (intro w hSw; (try dsimp only at hSw); go_simp; try (with_reducible rfl))
  try simp only [Act.put, List.setIfInBounds_toArray, List.set_cons_zero, List.set_cons_succ, List.getElem_toArray, List.getElem_cons_zero, List.getElem_cons_succ]
  refine wpAnyH_take (i := 3) (v := ?_) rfl (by kernel_rfl) (by kernel_rfl) (by kernel_rfl) (fun _ _ _ h => h) (Or.inl ⟨by rfl, ?_⟩) (by assumption) ?_
  rotate_left
  · intro w' hSw
    obtain ⟨f0, f1, f2, f3, f4, f5, f6, f7, f8, f9, f10⟩ := hSw.2.cells
    go_simp
    try (with_reducible rfl)
  try simp only [Act.put, List.setIfInBounds_toArray, List.set_cons_zero, List.set_cons_succ, List.getElem_toArray, List.getElem_cons_zero, List.getElem_cons_succ]
  refine wpAnyH_take (i := 4) (v := ?_) rfl (by kernel_rfl) (by kernel_rfl) (by kernel_rfl) (fun _ _ _ h => h) (Or.inl ⟨by rfl, ?_⟩) (by assumption) ?_
  rotate_left
  · intro w' hSw
    obtain ⟨g0, g1⟩ := hSw.1.1.pre
    go_simp
    try (with_reducible rfl)
  try simp only [Act.put, List.setIfInBounds_toArray, List.set_cons_zero, List.set_cons_succ, List.getElem_toArray, List.getElem_cons_zero, List.getElem_cons_succ]
  refine wpAnyH_take (i := 5) (v := ?_) rfl (by kernel_rfl) (by kernel_rfl) (by kernel_rfl) (fun _ _ _ h => h) (Or.inl ⟨by rfl, ?_⟩) (by assumption) ?_
  rotate_left
  · intro w' hSw
    obtain ⟨g0, g1, g2, g3, g4⟩ := hSw.1.1.arg
    go_simp
    try (with_reducible rfl)
  try simp only [Act.put, List.setIfInBounds_toArray, List.set_cons_zero, List.set_cons_succ, List.getElem_toArray, List.getElem_cons_zero, List.getElem_cons_succ]
  refine wpAnyH_ready (rs := [6]) (by kernel_rfl) (by simp) ?_
  refine AllReadyH.cons rfl (fun K hK => ?_) AllReadyH.nil
  go_simp
  refine (HFT.out w5.drew (HS5.out.on (Below.refl _ _).drew).1.2.2).mono ?_
  rintro e x0 ⟨rfl, hb6⟩
  obtain ⟨HS6⟩ : Nonempty (Hid (SX w x0 w.heap.size O ta tn #[.slice p0 A.path.length cp0, .int .i64 A.pref, .int .i64 A.med, .int .i64 A.org, .slice q0 A.tags.length cq0] #[.slice p5 AM.path.length cp5, .int .i64 AM.pref, .int .i64 AM.med, .int .i64 AM.org, .slice q5 AM.tags.length cq5] AM E u cM dM)) := ⟨(HS5.out.on (Below.refl _ _).drew).on hb6⟩
  clear hb6 HFT
  refine hK.out _ _ ⟨HS6.out, HX0.out _ HS6.out.1.2.2⟩ (fun hHeld => ?_)
  clear hK K
  try simp only [Act.put, List.setIfInBounds_toArray, List.set_cons_zero, List.set_cons_succ, List.getElem_toArray, List.getElem_cons_zero, List.getElem_cons_succ]
  refine wpAnyH_done (by kernel_rfl) ?_ _
  refine NoPanic.normal ?_
  clear hHeld
  clear HS5 HX0
  have hnil : x0.ownsRow x0.heap.size 37 11 (.slice none 0 0) ([] : List Rl).length (flatR []) := World.ownsRow_nil _ _ _ _
  go_wp2_with (at_builtin; refine wp_addAllR rfl _ _ 22 rfl x0.heap.size 37 i0 Tryd.underlying22 HINF.out hz0 hz1 hz2 _ [] rfl hnil (some ⟨b0, o0, none⟩) (L.take k) k cp rfl htl (.inr ⟨_, rfl⟩) (HTK.out _ HS6.out.1.2.2) M1 hM1 (by simp; omega) (Nat.le_refl _) ?_)
  intro v9 x1 hown1 hb1
  obtain ⟨HS7⟩ : Nonempty (Hid (SX w x1 w.heap.size O ta tn #[.slice p0 A.path.length cp0, .int .i64 A.pref, .int .i64 A.med, .int .i64 A.org, .slice q0 A.tags.length cq0] #[.slice p5 AM.path.length cp5, .int .i64 AM.pref, .int .i64 AM.med, .int .i64 AM.org, .slice q5 AM.tags.length cq5] AM E u cM dM ∧ Below w.heap.size w x0)) := ⟨HS6.out.on hb1, HS6.out.1.2.2⟩
  have hsz := hb1.size
  obtain ⟨HB1⟩ : Nonempty (Hid (Below x0.heap.size x0 x1)) := ⟨hb1⟩
  clear hb1
  go_upto_region 12 with fail
  go_cut [18] from 102 (fun s18 w' => ∃ (p9 : Option Addr) (cp9 : Nat) (Wx : World), s18 = .slice p9 n1 cp9 ∧ Hid (SX w Wx w.heap.size O ta tn #[.slice p0 A.path.length cp0, .int .i64 A.pref, .int .i64 A.med, .int .i64 A.org, .slice q0 A.tags.length cq0] #[.slice p5 AM.path.length cp5, .int .i64 AM.pref, .int .i64 AM.med, .int .i64 AM.org, .slice q5 AM.tags.length cq5] AM E u cM dM ∧ Rules Wx p9 M) ∧ Wx = w')
  case first =>
    by_cases hcp : cp = k + 1
    · subst hcp
      go_wp2_with (at_builtin; refine wp_addAllR rfl _ _ 22 rfl x0.heap.size 37 i0 Tryd.underlying22 HINF.out hz0 hz1 hz2 _ M1 rfl hown1 (some ⟨b0, o0, none⟩) M2 (L.length - (k + 1)) _ rfl hdl (.inr ⟨_, rfl⟩) (HD0.out _ rfl) M hM12 (by have := HML.out.1; omega) hsz ?_)
      intro v10 x2 hown3 hb3
      obtain ⟨p9, cp9, hv9, -, -, hr9, -⟩ := own_rules hown3
      rw [HML.out.2] at hv9
      subst hv9
      obtain ⟨HS8⟩ : Nonempty (Hid (SX w x2 w.heap.size O ta tn #[.slice p0 A.path.length cp0, .int .i64 A.pref, .int .i64 A.med, .int .i64 A.org, .slice q0 A.tags.length cq0] #[.slice p5 AM.path.length cp5, .int .i64 AM.pref, .int .i64 AM.med, .int .i64 AM.org, .slice q5 AM.tags.length cq5] AM E u cM dM ∧ Rules x2 p9 M)) := ⟨⟨HS6.out.on (HB1.out.trans hb3), hr9⟩⟩
      clear hown3 hb3 hr9 hown1
      go_wp2_with fail
      go_meet
      exact ⟨p9, cp9, x2, rfl, HS8, rfl⟩
    · skip
      go_wp2_with (at_builtin; refine wp_addAllR rfl _ _ 22 rfl x0.heap.size 37 i0 Tryd.underlying22 HINF.out hz0 hz1 hz2 _ M1 rfl hown1 (some ⟨b0, o0 + (k + 1) * 11, none⟩) M2 (L.length - (k + 1)) (cp - (k + 1)) rfl hdl (.inr ⟨_, rfl⟩) (HDR.out _ HS7.out.1.1.2.2) M hM12 (by have := HML.out.1; omega) hsz ?_)
      intro v10 x2 hown3 hb3
      obtain ⟨p9, cp9, hv9, -, -, hr9, -⟩ := own_rules hown3
      rw [HML.out.2] at hv9
      subst hv9
      obtain ⟨HS8⟩ : Nonempty (Hid (SX w x2 w.heap.size O ta tn #[.slice p0 A.path.length cp0, .int .i64 A.pref, .int .i64 A.med, .int .i64 A.org, .slice q0 A.tags.length cq0] #[.slice p5 AM.path.length cp5, .int .i64 AM.pref, .int .i64 AM.med, .int .i64 AM.org, .slice q5 AM.tags.length cq5] AM E u cM dM ∧ Rules x2 p9 M)) := ⟨⟨HS6.out.on (HB1.out.trans hb3), hr9⟩⟩
      clear hown3 hb3 hr9 hown1
      go_wp2_with fail
      go_meet
      exact ⟨p9, cp9, x2, rfl, HS8, rfl⟩
  case rest =>
    obtain ⟨p9, cp9, Wx, rfl, HR9, hW⟩ := hcut
    subst hW
    by_cases hn : L.length = 1
    · skip
      obtain rfl : bM = false := HF1.out hn
      obtain rfl : n1 = 0 := by have := hn1.out; omega
      clear hn HF1 HFF HAL
      go_wp2_with fail
      go_ret
      exact ⟨rfl, HR9.out.1.1.2.2⟩
    · skip
      have hff := HFF.out hn
      simp only [hff.1, hff.2.1, hff.2.2.1, hff.2.2.2] at HAL
      obtain ⟨j, rfl⟩ : ∃ j, n1 = j + 1 := ⟨L.length - 2, by have := hn1.out; omega⟩
      have hj : ¬ ((j : Int) + 1 = 0) := by omega
      clear hff hn HF1 HFF
      obtain ⟨a0, a1⟩ := HR9.out.1.1.pre
      obtain ⟨b0', b1, b2, b3, b4⟩ := HR9.out.1.1.arg
      go_wp2_with fail
      refine (HAL.out p9 cp9 Wx HR9.out.1.1.2.2 HR9.out.2).mono ?_
      rintro e x3 ⟨⟨v8, u8, rfl, hg8, hu8⟩, hb3⟩
      have hk8 := hg8.attrK
      obtain ⟨p8, cp8, q8, cq8, rfl, -, -, -, -⟩ := hg8.attrK
      obtain ⟨O2, hO2⟩ : ∃ b, Hid (x3.heap.size = b) := ⟨_, show _ = _ from rfl⟩
      obtain ⟨x4, hx4⟩ : ∃ y, Hid (x3.alloc (.cells #[.slice p8 AM.path.length cp8, .int .i64 AM.pref, .int .i64 AM.med, .int .i64 AM.org, .slice q8 AM.tags.length cq8] 27) = y) := ⟨_, show _ = _ from rfl⟩
      obtain ⟨HY⟩ : Nonempty (Hid (SY w x4 w.heap.size O O2 ta tn #[.slice p0 A.path.length cp0, .int .i64 A.pref, .int .i64 A.med, .int .i64 A.org, .slice q0 A.tags.length cq0] #[.slice p5 AM.path.length cp5, .int .i64 AM.pref, .int .i64 AM.med, .int .i64 AM.org, .slice q5 AM.tags.length cq5] AM E u cM dM #[.slice p8 AM.path.length cp8, .int .i64 AM.pref, .int .i64 AM.med, .int .i64 AM.org, .slice q8 AM.tags.length cq8] AM u8 cM dM)) := ⟨by rw [← show x3.alloc (.cells #[.slice p8 AM.path.length cp8, .int .i64 AM.pref, .int .i64 AM.med, .int .i64 AM.org, .slice q8 AM.tags.length cq8] 27) = x4 from hx4.out, ← show x3.heap.size = O2 from hO2.out]; exact sy_new (HR9.out.1.on hb3) hk8 hu8⟩
      clear hb3 hg8 hu8 hk8 HR9 a0 a1 b0' b1 b2 b3 b4 HAL
      go_upto_region 16 with fail
      rw [show x3.alloc (.cells #[.slice p8 AM.path.length cp8, .int .i64 AM.pref, .int .i64 AM.med, .int .i64 AM.org, .slice q8 AM.tags.length cq8] 27) = x4 from hx4.out, show x3.heap.size = O2 from hO2.out]
      clear hx4 hO2
      go_cut [142] from 127 (fun s w' => ∃ Wy : World, s = .bool false ∧ Hid (SY w Wy w.heap.size O O2 ta tn #[.slice p0 A.path.length cp0, .int .i64 A.pref, .int .i64 A.med, .int .i64 A.org, .slice q0 A.tags.length cq0] #[.slice p5 AM.path.length cp5, .int .i64 AM.pref, .int .i64 AM.med, .int .i64 AM.org, .slice q5 AM.tags.length cq5] AM E u cM dM #[.slice p8 AM.path.length cp8, .int .i64 AM.pref, .int .i64 AM.med, .int .i64 AM.org, .slice q8 AM.tags.length cq8] AM u8 cM dM) ∧ Wy = w')
      case first J0 K0 hJ0 hK0 =>
        rcases isErr_cases HY.out.1.2.2.2 with ⟨hc, rfl⟩ | ⟨hc, t1, a1, rfl⟩
        · obtain rfl : u8 = .nilIface := by
            rcases isErr_cases HY.out.2.2.2 with ⟨-, h⟩ | ⟨h, -⟩
            · exact h
            · omega
          clear hc
          cases bM with
          | true =>
            go_upto_region 16 with fail
            refine wp_region_noPanic ?_
            refine wp_region_held_drew (S := (fun w' => SY w w' w.heap.size O O2 ta tn #[.slice p0 A.path.length cp0, .int .i64 A.pref, .int .i64 A.med, .int .i64 A.org, .slice q0 A.tags.length cq0] #[.slice p5 AM.path.length cp5, .int .i64 AM.pref, .int .i64 AM.med, .int .i64 AM.org, .slice q5 AM.tags.length cq5] AM E .nilIface cM dM #[.slice p8 AM.path.length cp8, .int .i64 AM.pref, .int .i64 AM.med, .int .i64 AM.org, .slice q8 AM.tags.length cq8] AM .nilIface cM dM)) (by kernel_rfl) ?_ (fun hHeld => ?_)
            · exact HY.out.on (Below.refl _ _).drew
            refine wpAnyH_take (i := 0) (v := ?_) rfl (by kernel_rfl) (by kernel_rfl) (by kernel_rfl) (fun _ _ _ h => h) (Or.inl ⟨by rfl, ?_⟩) (by assumption) ?_
            rotate_left
            · (intro w hSw; (try dsimp only at hSw); go_simp; try (with_reducible rfl))
            try simp only [Act.put, List.setIfInBounds_toArray, List.set_cons_zero, List.set_cons_succ, List.getElem_toArray, List.getElem_cons_zero, List.getElem_cons_succ]
            refine wpAnyH_take (i := 1) (v := ?_) rfl (by kernel_rfl) (by kernel_rfl) (by kernel_rfl) (fun _ _ _ h => h) (Or.inl ⟨by rfl, ?_⟩) (by assumption) ?_
            rotate_left
            · (intro w hSw; (try dsimp only at hSw); go_simp; try (with_reducible rfl))
            try simp only [Act.put, List.setIfInBounds_toArray, List.set_cons_zero, List.set_cons_succ, List.getElem_toArray, List.getElem_cons_zero, List.getElem_cons_succ]
            refine wpAnyH_take (i := 2) (v := ?_) rfl (by kernel_rfl) (by kernel_rfl) (by kernel_rfl) (fun _ _ _ h => h) (Or.inl ⟨by rfl, ?_⟩) (by assumption) ?_
            rotate_left
            · (intro w hSw; (try dsimp only at hSw); go_simp; try (with_reducible rfl))
            try simp only [Act.put, List.setIfInBounds_toArray, List.set_cons_zero, List.set_cons_succ, List.getElem_toArray, List.getElem_cons_zero, List.getElem_cons_succ]
            refine wpAnyH_take (i := 3) (v := ?_) rfl (by kernel_rfl) (by kernel_rfl) (by kernel_rfl) (fun _ _ _ h => h) (Or.inl ⟨by rfl, ?_⟩) (by assumption) ?_
            rotate_left
            · (intro w hSw; (try dsimp only at hSw); go_simp; try (with_reducible rfl))
            try simp only [Act.put, List.setIfInBounds_toArray, List.set_cons_zero, List.set_cons_succ, List.getElem_toArray, List.getElem_cons_zero, List.getElem_cons_succ]
            refine wpAnyH_take (i := 4) (v := ?_) rfl (by kernel_rfl) (by kernel_rfl) (by kernel_rfl) (fun _ _ _ h => h) (Or.inl ⟨by rfl, ?_⟩) (by assumption) ?_
            rotate_left
            · (intro w hSw; (try dsimp only at hSw); go_simp; try (with_reducible rfl))
            try simp only [Act.put, List.setIfInBounds_toArray, List.set_cons_zero, List.set_cons_succ, List.getElem_toArray, List.getElem_cons_zero, List.getElem_cons_succ]
            refine wpAnyH_take (i := 5) (v := ?_) rfl (by kernel_rfl) (by kernel_rfl) (by kernel_rfl) (fun _ _ _ h => h) (Or.inl ⟨by rfl, ?_⟩) (by assumption) ?_
            rotate_left
            · (intro w hSw; (try dsimp only at hSw); go_simp; try (with_reducible rfl))
            try simp only [Act.put, List.setIfInBounds_toArray, List.set_cons_zero, List.set_cons_succ, List.getElem_toArray, List.getElem_cons_zero, List.getElem_cons_succ]
            refine wpAnyH_take (i := 6) (v := ?_) rfl (by kernel_rfl) (by kernel_rfl) (by kernel_rfl) (fun _ _ _ h => h) (Or.inl ⟨by rfl, ?_⟩) (by assumption) ?_
            rotate_left
            · (intro w hSw; (try dsimp only at hSw); go_simp; try (with_reducible rfl))
            try simp only [Act.put, List.setIfInBounds_toArray, List.set_cons_zero, List.set_cons_succ, List.getElem_toArray, List.getElem_cons_zero, List.getElem_cons_succ]
            refine wpAnyH_take (i := 7) (v := ?_) rfl (by kernel_rfl) (by kernel_rfl) (by kernel_rfl) (fun _ _ _ h => h) (Or.inl ⟨by rfl, ?_⟩) (by assumption) ?_
            rotate_left
            · (intro w hSw; (try dsimp only at hSw); go_simp; try (with_reducible rfl))
            try simp only [Act.put, List.setIfInBounds_toArray, List.set_cons_zero, List.set_cons_succ, List.getElem_toArray, List.getElem_cons_zero, List.getElem_cons_succ]
            refine wpAnyH_take (i := 8) (v := ?_) rfl (by kernel_rfl) (by kernel_rfl) (by kernel_rfl) (fun _ _ _ h => h) (Or.inl ⟨by rfl, ?_⟩) (by assumption) ?_
            rotate_left
            · (intro w hSw; (try dsimp only at hSw); go_simp; try (with_reducible rfl))
            try simp only [Act.put, List.setIfInBounds_toArray, List.set_cons_zero, List.set_cons_succ, List.getElem_toArray, List.getElem_cons_zero, List.getElem_cons_succ]
            refine wpAnyH_take (i := 9) (v := ?_) rfl (by kernel_rfl) (by kernel_rfl) (by kernel_rfl) (fun _ _ _ h => h) (Or.inl ⟨by rfl, ?_⟩) (by assumption) ?_
            rotate_left
            · (intro w hSw; (try dsimp only at hSw); go_simp; try (with_reducible rfl))
            try simp only [Act.put, List.setIfInBounds_toArray, List.set_cons_zero, List.set_cons_succ, List.getElem_toArray, List.getElem_cons_zero, List.getElem_cons_succ]
            refine wpAnyH_take (i := 10) (v := ?_) rfl (by kernel_rfl) (by kernel_rfl) (by kernel_rfl) (fun _ _ _ h => h) (Or.inl ⟨by rfl, ?_⟩) (by assumption) ?_
            rotate_left
            · (intro w hSw; (try dsimp only at hSw); go_simp; try (with_reducible rfl))
            try simp only [Act.put, List.setIfInBounds_toArray, List.set_cons_zero, List.set_cons_succ, List.getElem_toArray, List.getElem_cons_zero, List.getElem_cons_succ]
            refine wpAnyH_take (i := 11) (v := ?_) rfl (by kernel_rfl) (by kernel_rfl) (by kernel_rfl) (fun _ _ _ h => h) (Or.inl ⟨by rfl, ?_⟩) (by assumption) ?_
            rotate_left
            · intro w' hSw
              obtain ⟨g0, g1, g2, g3, g4⟩ := hSw.1.cells
              go_simp
              try (with_reducible rfl)
            try simp only [Act.put, List.setIfInBounds_toArray, List.set_cons_zero, List.set_cons_succ, List.getElem_toArray, List.getElem_cons_zero, List.getElem_cons_succ]
            refine wpAnyH_take (i := 12) (v := ?_) rfl (by kernel_rfl) (by kernel_rfl) (by kernel_rfl) (fun _ _ _ h => h) (Or.inl ⟨by rfl, ?_⟩) (by assumption) ?_
            rotate_left
            · intro w' hSw
              obtain ⟨g0, g1, g2, g3, g4⟩ := hSw.cells
              go_simp
              try (with_reducible rfl)
            try simp only [Act.put, List.setIfInBounds_toArray, List.set_cons_zero, List.set_cons_succ, List.getElem_toArray, List.getElem_cons_zero, List.getElem_cons_succ]
            refine wpAnyH_ready (rs := [13]) (by kernel_rfl) (by simp) ?_
            refine AllReadyH.cons rfl (fun K hK => ?_) AllReadyH.nil
            go_simp
            refine (HSM.out _ _ _ (HY.out.on (Below.refl _ _).drew).1.2.2.1.attr (HY.out.on (Below.refl _ _).drew).2.2.1.attr).mono ?_
            rintro e x9 ⟨rfl, hb9⟩
            obtain ⟨HY9⟩ : Nonempty (Hid (SY w x9 w.heap.size O O2 ta tn #[.slice p0 A.path.length cp0, .int .i64 A.pref, .int .i64 A.med, .int .i64 A.org, .slice q0 A.tags.length cq0] #[.slice p5 AM.path.length cp5, .int .i64 AM.pref, .int .i64 AM.med, .int .i64 AM.org, .slice q5 AM.tags.length cq5] AM E .nilIface cM dM #[.slice p8 AM.path.length cp8, .int .i64 AM.pref, .int .i64 AM.med, .int .i64 AM.org, .slice q8 AM.tags.length cq8] AM .nilIface cM dM)) := ⟨(HY.out.on (Below.refl _ _).drew).on hb9⟩
            clear hb9
            refine hK.out _ _ HY9.out (fun hHeld => ?_)
            clear hK K
            try simp only [Act.put, List.setIfInBounds_toArray, List.set_cons_zero, List.set_cons_succ, List.getElem_toArray, List.getElem_cons_zero, List.getElem_cons_succ]
            refine wpAnyH_take (i := 14) (v := ?_) rfl (by kernel_rfl) (by kernel_rfl) (by kernel_rfl) (fun _ _ _ h => h) (Or.inl ⟨by rfl, ?_⟩) (by assumption) ?_
            rotate_left
            · (intro w hSw; (try dsimp only at hSw); go_simp; try (with_reducible rfl))
            try simp only [Act.put, List.setIfInBounds_toArray, List.set_cons_zero, List.set_cons_succ, List.getElem_toArray, List.getElem_cons_zero, List.getElem_cons_succ]
            refine wpAnyH_take (i := 15) (v := ?_) rfl (by kernel_rfl) (by kernel_rfl) (by kernel_rfl) (fun _ _ _ h => h) (Or.inl ⟨by rfl, ?_⟩) (by assumption) ?_
            rotate_left
            · (intro w hSw; (try dsimp only at hSw); go_simp; try (with_reducible rfl))
            try simp only [Act.put, List.setIfInBounds_toArray, List.set_cons_zero, List.set_cons_succ, List.getElem_toArray, List.getElem_cons_zero, List.getElem_cons_succ]
            refine wpAnyH_done (by kernel_rfl) ?_ _
            refine NoPanic.normal ?_
            clear hHeld
            show K0 _ _
            refine hK0 _ _ (Met.intro (hJ0 _ _ ?_))
            (repeat apply Exists.intro)
            exact ⟨⟨x9, rfl, HY9, rfl⟩, rfl⟩
          | false =>
            go_upto_region 16 with fail
            refine wp_region_noPanic ?_
            refine wp_region_held_drew (S := (fun w' => SY w w' w.heap.size O O2 ta tn #[.slice p0 A.path.length cp0, .int .i64 A.pref, .int .i64 A.med, .int .i64 A.org, .slice q0 A.tags.length cq0] #[.slice p5 AM.path.length cp5, .int .i64 AM.pref, .int .i64 AM.med, .int .i64 AM.org, .slice q5 AM.tags.length cq5] AM E .nilIface cM dM #[.slice p8 AM.path.length cp8, .int .i64 AM.pref, .int .i64 AM.med, .int .i64 AM.org, .slice q8 AM.tags.length cq8] AM .nilIface cM dM)) (by kernel_rfl) ?_ (fun hHeld => ?_)
            · exact HY.out.on (Below.refl _ _).drew
            refine wpAnyH_take (i := 0) (v := ?_) rfl (by kernel_rfl) (by kernel_rfl) (by kernel_rfl) (fun _ _ _ h => h) (Or.inl ⟨by rfl, ?_⟩) (by assumption) ?_
            rotate_left
            · (intro w hSw; (try dsimp only at hSw); go_simp; try (with_reducible rfl))
            try simp only [Act.put, List.setIfInBounds_toArray, List.set_cons_zero, List.set_cons_succ, List.getElem_toArray, List.getElem_cons_zero, List.getElem_cons_succ]
            refine wpAnyH_take (i := 1) (v := ?_) rfl (by kernel_rfl) (by kernel_rfl) (by kernel_rfl) (fun _ _ _ h => h) (Or.inl ⟨by rfl, ?_⟩) (by assumption) ?_
            rotate_left
            · (intro w hSw; (try dsimp only at hSw); go_simp; try (with_reducible rfl))
            try simp only [Act.put, List.setIfInBounds_toArray, List.set_cons_zero, List.set_cons_succ, List.getElem_toArray, List.getElem_cons_zero, List.getElem_cons_succ]
            refine wpAnyH_take (i := 2) (v := ?_) rfl (by kernel_rfl) (by kernel_rfl) (by kernel_rfl) (fun _ _ _ h => h) (Or.inl ⟨by rfl, ?_⟩) (by assumption) ?_
            rotate_left
            · (intro w hSw; (try dsimp only at hSw); go_simp; try (with_reducible rfl))
            try simp only [Act.put, List.setIfInBounds_toArray, List.set_cons_zero, List.set_cons_succ, List.getElem_toArray, List.getElem_cons_zero, List.getElem_cons_succ]
            refine wpAnyH_take (i := 3) (v := ?_) rfl (by kernel_rfl) (by kernel_rfl) (by kernel_rfl) (fun _ _ _ h => h) (Or.inl ⟨by rfl, ?_⟩) (by assumption) ?_
            rotate_left
            · (intro w hSw; (try dsimp only at hSw); go_simp; try (with_reducible rfl))
            try simp only [Act.put, List.setIfInBounds_toArray, List.set_cons_zero, List.set_cons_succ, List.getElem_toArray, List.getElem_cons_zero, List.getElem_cons_succ]
            refine wpAnyH_take (i := 4) (v := ?_) rfl (by kernel_rfl) (by kernel_rfl) (by kernel_rfl) (fun _ _ _ h => h) (Or.inl ⟨by rfl, ?_⟩) (by assumption) ?_
            rotate_left
            · (intro w hSw; (try dsimp only at hSw); go_simp; try (with_reducible rfl))
            try simp only [Act.put, List.setIfInBounds_toArray, List.set_cons_zero, List.set_cons_succ, List.getElem_toArray, List.getElem_cons_zero, List.getElem_cons_succ]
            refine wpAnyH_take (i := 5) (v := ?_) rfl (by kernel_rfl) (by kernel_rfl) (by kernel_rfl) (fun _ _ _ h => h) (Or.inl ⟨by rfl, ?_⟩) (by assumption) ?_
            rotate_left
            · (intro w hSw; (try dsimp only at hSw); go_simp; try (with_reducible rfl))
            try simp only [Act.put, List.setIfInBounds_toArray, List.set_cons_zero, List.set_cons_succ, List.getElem_toArray, List.getElem_cons_zero, List.getElem_cons_succ]
            refine wpAnyH_take (i := 6) (v := ?_) rfl (by kernel_rfl) (by kernel_rfl) (by kernel_rfl) (fun _ _ _ h => h) (Or.inl ⟨by rfl, ?_⟩) (by assumption) ?_
            rotate_left
            · (intro w hSw; (try dsimp only at hSw); go_simp; try (with_reducible rfl))
            try simp only [Act.put, List.setIfInBounds_toArray, List.set_cons_zero, List.set_cons_succ, List.getElem_toArray, List.getElem_cons_zero, List.getElem_cons_succ]
            refine wpAnyH_take (i := 7) (v := ?_) rfl (by kernel_rfl) (by kernel_rfl) (by kernel_rfl) (fun _ _ _ h => h) (Or.inl ⟨by rfl, ?_⟩) (by assumption) ?_
            rotate_left
            · (intro w hSw; (try dsimp only at hSw); go_simp; try (with_reducible rfl))
            try simp only [Act.put, List.setIfInBounds_toArray, List.set_cons_zero, List.set_cons_succ, List.getElem_toArray, List.getElem_cons_zero, List.getElem_cons_succ]
            refine wpAnyH_take (i := 8) (v := ?_) rfl (by kernel_rfl) (by kernel_rfl) (by kernel_rfl) (fun _ _ _ h => h) (Or.inl ⟨by rfl, ?_⟩) (by assumption) ?_
            rotate_left
            · (intro w hSw; (try dsimp only at hSw); go_simp; try (with_reducible rfl))
            try simp only [Act.put, List.setIfInBounds_toArray, List.set_cons_zero, List.set_cons_succ, List.getElem_toArray, List.getElem_cons_zero, List.getElem_cons_succ]
            refine wpAnyH_take (i := 9) (v := ?_) rfl (by kernel_rfl) (by kernel_rfl) (by kernel_rfl) (fun _ _ _ h => h) (Or.inl ⟨by rfl, ?_⟩) (by assumption) ?_
            rotate_left
            · (intro w hSw; (try dsimp only at hSw); go_simp; try (with_reducible rfl))
            try simp only [Act.put, List.setIfInBounds_toArray, List.set_cons_zero, List.set_cons_succ, List.getElem_toArray, List.getElem_cons_zero, List.getElem_cons_succ]
            refine wpAnyH_take (i := 10) (v := ?_) rfl (by kernel_rfl) (by kernel_rfl) (by kernel_rfl) (fun _ _ _ h => h) (Or.inl ⟨by rfl, ?_⟩) (by assumption) ?_
            rotate_left
            · (intro w hSw; (try dsimp only at hSw); go_simp; try (with_reducible rfl))
            try simp only [Act.put, List.setIfInBounds_toArray, List.set_cons_zero, List.set_cons_succ, List.getElem_toArray, List.getElem_cons_zero, List.getElem_cons_succ]
            refine wpAnyH_take (i := 11) (v := ?_) rfl (by kernel_rfl) (by kernel_rfl) (by kernel_rfl) (fun _ _ _ h => h) (Or.inl ⟨by rfl, ?_⟩) (by assumption) ?_
            rotate_left
            · intro w' hSw
              obtain ⟨g0, g1, g2, g3, g4⟩ := hSw.1.cells
              go_simp
              try (with_reducible rfl)
            try simp only [Act.put, List.setIfInBounds_toArray, List.set_cons_zero, List.set_cons_succ, List.getElem_toArray, List.getElem_cons_zero, List.getElem_cons_succ]
            refine wpAnyH_take (i := 12) (v := ?_) rfl (by kernel_rfl) (by kernel_rfl) (by kernel_rfl) (fun _ _ _ h => h) (Or.inl ⟨by rfl, ?_⟩) (by assumption) ?_
            rotate_left
            · intro w' hSw
              obtain ⟨g0, g1, g2, g3, g4⟩ := hSw.cells
              go_simp
              try (with_reducible rfl)
            try simp only [Act.put, List.setIfInBounds_toArray, List.set_cons_zero, List.set_cons_succ, List.getElem_toArray, List.getElem_cons_zero, List.getElem_cons_succ]
            refine wpAnyH_ready (rs := [13]) (by kernel_rfl) (by simp) ?_
            refine AllReadyH.cons rfl (fun K hK => ?_) AllReadyH.nil
            go_simp
            refine (HSM.out _ _ _ (HY.out.on (Below.refl _ _).drew).1.2.2.1.attr (HY.out.on (Below.refl _ _).drew).2.2.1.attr).mono ?_
            rintro e x9 ⟨rfl, hb9⟩
            obtain ⟨HY9⟩ : Nonempty (Hid (SY w x9 w.heap.size O O2 ta tn #[.slice p0 A.path.length cp0, .int .i64 A.pref, .int .i64 A.med, .int .i64 A.org, .slice q0 A.tags.length cq0] #[.slice p5 AM.path.length cp5, .int .i64 AM.pref, .int .i64 AM.med, .int .i64 AM.org, .slice q5 AM.tags.length cq5] AM E .nilIface cM dM #[.slice p8 AM.path.length cp8, .int .i64 AM.pref, .int .i64 AM.med, .int .i64 AM.org, .slice q8 AM.tags.length cq8] AM .nilIface cM dM)) := ⟨(HY.out.on (Below.refl _ _).drew).on hb9⟩
            clear hb9
            refine hK.out _ _ HY9.out (fun hHeld => ?_)
            clear hK K
            try simp only [Act.put, List.setIfInBounds_toArray, List.set_cons_zero, List.set_cons_succ, List.getElem_toArray, List.getElem_cons_zero, List.getElem_cons_succ]
            refine wpAnyH_take (i := 14) (v := ?_) rfl (by kernel_rfl) (by kernel_rfl) (by kernel_rfl) (fun _ _ _ h => h) (Or.inl ⟨by rfl, ?_⟩) (by assumption) ?_
            rotate_left
            · (intro w hSw; (try dsimp only at hSw); go_simp; try (with_reducible rfl))
            try simp only [Act.put, List.setIfInBounds_toArray, List.set_cons_zero, List.set_cons_succ, List.getElem_toArray, List.getElem_cons_zero, List.getElem_cons_succ]
            refine wpAnyH_take (i := 15) (v := ?_) rfl (by kernel_rfl) (by kernel_rfl) (by kernel_rfl) (fun _ _ _ h => h) (Or.inl ⟨by rfl, ?_⟩) (by assumption) ?_
            rotate_left
            · (intro w hSw; (try dsimp only at hSw); go_simp; try (with_reducible rfl))
            try simp only [Act.put, List.setIfInBounds_toArray, List.set_cons_zero, List.set_cons_succ, List.getElem_toArray, List.getElem_cons_zero, List.getElem_cons_succ]
            refine wpAnyH_done (by kernel_rfl) ?_ _
            refine NoPanic.normal ?_
            clear hHeld
            show K0 _ _
            refine hK0 _ _ (Met.intro (hJ0 _ _ ?_))
            (repeat apply Exists.intro)
            exact ⟨⟨x9, rfl, HY9, rfl⟩, rfl⟩
        · obtain ⟨t8, a8, rfl⟩ : ∃ t a, u8 = .iface t (.pointer (some a)) := by
            rcases isErr_cases HY.out.2.2.2 with ⟨h, -⟩ | ⟨-, h⟩
            · omega
            · exact h
          clear hc
          cases bM with
          | true =>
            go_upto_region 16 with fail
            refine wp_region_noPanic ?_
            refine wp_region_held_drew (S := (fun w' => SY w w' w.heap.size O O2 ta tn #[.slice p0 A.path.length cp0, .int .i64 A.pref, .int .i64 A.med, .int .i64 A.org, .slice q0 A.tags.length cq0] #[.slice p5 AM.path.length cp5, .int .i64 AM.pref, .int .i64 AM.med, .int .i64 AM.org, .slice q5 AM.tags.length cq5] AM E (.iface t1 (.pointer (some a1))) cM dM #[.slice p8 AM.path.length cp8, .int .i64 AM.pref, .int .i64 AM.med, .int .i64 AM.org, .slice q8 AM.tags.length cq8] AM (.iface t8 (.pointer (some a8))) cM dM)) (by kernel_rfl) ?_ (fun hHeld => ?_)
            · exact HY.out.on (Below.refl _ _).drew
            refine wpAnyH_take (i := 0) (v := ?_) rfl (by kernel_rfl) (by kernel_rfl) (by kernel_rfl) (fun _ _ _ h => h) (Or.inl ⟨by rfl, ?_⟩) (by assumption) ?_
            rotate_left
            · (intro w hSw; (try dsimp only at hSw); go_simp; try (with_reducible rfl))
            try simp only [Act.put, List.setIfInBounds_toArray, List.set_cons_zero, List.set_cons_succ, List.getElem_toArray, List.getElem_cons_zero, List.getElem_cons_succ]
            refine wpAnyH_take (i := 1) (v := ?_) rfl (by kernel_rfl) (by kernel_rfl) (by kernel_rfl) (fun _ _ _ h => h) (Or.inl ⟨by rfl, ?_⟩) (by assumption) ?_
            rotate_left
            · (intro w hSw; (try dsimp only at hSw); go_simp; try (with_reducible rfl))
            try simp only [Act.put, List.setIfInBounds_toArray, List.set_cons_zero, List.set_cons_succ, List.getElem_toArray, List.getElem_cons_zero, List.getElem_cons_succ]
            refine wpAnyH_take (i := 2) (v := ?_) rfl (by kernel_rfl) (by kernel_rfl) (by kernel_rfl) (fun _ _ _ h => h) (Or.inl ⟨by rfl, ?_⟩) (by assumption) ?_
            rotate_left
            · (intro w hSw; (try dsimp only at hSw); go_simp; try (with_reducible rfl))
            try simp only [Act.put, List.setIfInBounds_toArray, List.set_cons_zero, List.set_cons_succ, List.getElem_toArray, List.getElem_cons_zero, List.getElem_cons_succ]
            refine wpAnyH_take (i := 3) (v := ?_) rfl (by kernel_rfl) (by kernel_rfl) (by kernel_rfl) (fun _ _ _ h => h) (Or.inl ⟨by rfl, ?_⟩) (by assumption) ?_
            rotate_left
            · (intro w hSw; (try dsimp only at hSw); go_simp; try (with_reducible rfl))
            try simp only [Act.put, List.setIfInBounds_toArray, List.set_cons_zero, List.set_cons_succ, List.getElem_toArray, List.getElem_cons_zero, List.getElem_cons_succ]
            refine wpAnyH_take (i := 4) (v := ?_) rfl (by kernel_rfl) (by kernel_rfl) (by kernel_rfl) (fun _ _ _ h => h) (Or.inl ⟨by rfl, ?_⟩) (by assumption) ?_
            rotate_left
            · (intro w hSw; (try dsimp only at hSw); go_simp; try (with_reducible rfl))
            try simp only [Act.put, List.setIfInBounds_toArray, List.set_cons_zero, List.set_cons_succ, List.getElem_toArray, List.getElem_cons_zero, List.getElem_cons_succ]
            refine wpAnyH_take (i := 5) (v := ?_) rfl (by kernel_rfl) (by kernel_rfl) (by kernel_rfl) (fun _ _ _ h => h) (Or.inl ⟨by rfl, ?_⟩) (by assumption) ?_
            rotate_left
            · (intro w hSw; (try dsimp only at hSw); go_simp; try (with_reducible rfl))
            try simp only [Act.put, List.setIfInBounds_toArray, List.set_cons_zero, List.set_cons_succ, List.getElem_toArray, List.getElem_cons_zero, List.getElem_cons_succ]
            refine wpAnyH_take (i := 6) (v := ?_) rfl (by kernel_rfl) (by kernel_rfl) (by kernel_rfl) (fun _ _ _ h => h) (Or.inl ⟨by rfl, ?_⟩) (by assumption) ?_
            rotate_left
            · (intro w hSw; (try dsimp only at hSw); go_simp; try (with_reducible rfl))
            try simp only [Act.put, List.setIfInBounds_toArray, List.set_cons_zero, List.set_cons_succ, List.getElem_toArray, List.getElem_cons_zero, List.getElem_cons_succ]
            refine wpAnyH_take (i := 7) (v := ?_) rfl (by kernel_rfl) (by kernel_rfl) (by kernel_rfl) (fun _ _ _ h => h) (Or.inl ⟨by rfl, ?_⟩) (by assumption) ?_
            rotate_left
            · (intro w hSw; (try dsimp only at hSw); go_simp; try (with_reducible rfl))
            try simp only [Act.put, List.setIfInBounds_toArray, List.set_cons_zero, List.set_cons_succ, List.getElem_toArray, List.getElem_cons_zero, List.getElem_cons_succ]
            refine wpAnyH_take (i := 8) (v := ?_) rfl (by kernel_rfl) (by kernel_rfl) (by kernel_rfl) (fun _ _ _ h => h) (Or.inl ⟨by rfl, ?_⟩) (by assumption) ?_
            rotate_left
            · (intro w hSw; (try dsimp only at hSw); go_simp; try (with_reducible rfl))
            try simp only [Act.put, List.setIfInBounds_toArray, List.set_cons_zero, List.set_cons_succ, List.getElem_toArray, List.getElem_cons_zero, List.getElem_cons_succ]
            refine wpAnyH_take (i := 9) (v := ?_) rfl (by kernel_rfl) (by kernel_rfl) (by kernel_rfl) (fun _ _ _ h => h) (Or.inl ⟨by rfl, ?_⟩) (by assumption) ?_
            rotate_left
            · (intro w hSw; (try dsimp only at hSw); go_simp; try (with_reducible rfl))
            try simp only [Act.put, List.setIfInBounds_toArray, List.set_cons_zero, List.set_cons_succ, List.getElem_toArray, List.getElem_cons_zero, List.getElem_cons_succ]
            refine wpAnyH_take (i := 10) (v := ?_) rfl (by kernel_rfl) (by kernel_rfl) (by kernel_rfl) (fun _ _ _ h => h) (Or.inl ⟨by rfl, ?_⟩) (by assumption) ?_
            rotate_left
            · (intro w hSw; (try dsimp only at hSw); go_simp; try (with_reducible rfl))
            try simp only [Act.put, List.setIfInBounds_toArray, List.set_cons_zero, List.set_cons_succ, List.getElem_toArray, List.getElem_cons_zero, List.getElem_cons_succ]
            refine wpAnyH_take (i := 11) (v := ?_) rfl (by kernel_rfl) (by kernel_rfl) (by kernel_rfl) (fun _ _ _ h => h) (Or.inl ⟨by rfl, ?_⟩) (by assumption) ?_
            rotate_left
            · intro w' hSw
              obtain ⟨g0, g1, g2, g3, g4⟩ := hSw.1.cells
              go_simp
              try (with_reducible rfl)
            try simp only [Act.put, List.setIfInBounds_toArray, List.set_cons_zero, List.set_cons_succ, List.getElem_toArray, List.getElem_cons_zero, List.getElem_cons_succ]
            refine wpAnyH_take (i := 12) (v := ?_) rfl (by kernel_rfl) (by kernel_rfl) (by kernel_rfl) (fun _ _ _ h => h) (Or.inl ⟨by rfl, ?_⟩) (by assumption) ?_
            rotate_left
            · intro w' hSw
              obtain ⟨g0, g1, g2, g3, g4⟩ := hSw.cells
              go_simp
              try (with_reducible rfl)
            try simp only [Act.put, List.setIfInBounds_toArray, List.set_cons_zero, List.set_cons_succ, List.getElem_toArray, List.getElem_cons_zero, List.getElem_cons_succ]
            refine wpAnyH_ready (rs := [13]) (by kernel_rfl) (by simp) ?_
            refine AllReadyH.cons rfl (fun K hK => ?_) AllReadyH.nil
            go_simp
            refine (HSM.out _ _ _ (HY.out.on (Below.refl _ _).drew).1.2.2.1.attr (HY.out.on (Below.refl _ _).drew).2.2.1.attr).mono ?_
            rintro e x9 ⟨rfl, hb9⟩
            obtain ⟨HY9⟩ : Nonempty (Hid (SY w x9 w.heap.size O O2 ta tn #[.slice p0 A.path.length cp0, .int .i64 A.pref, .int .i64 A.med, .int .i64 A.org, .slice q0 A.tags.length cq0] #[.slice p5 AM.path.length cp5, .int .i64 AM.pref, .int .i64 AM.med, .int .i64 AM.org, .slice q5 AM.tags.length cq5] AM E (.iface t1 (.pointer (some a1))) cM dM #[.slice p8 AM.path.length cp8, .int .i64 AM.pref, .int .i64 AM.med, .int .i64 AM.org, .slice q8 AM.tags.length cq8] AM (.iface t8 (.pointer (some a8))) cM dM)) := ⟨(HY.out.on (Below.refl _ _).drew).on hb9⟩
            clear hb9
            refine hK.out _ _ HY9.out (fun hHeld => ?_)
            clear hK K
            try simp only [Act.put, List.setIfInBounds_toArray, List.set_cons_zero, List.set_cons_succ, List.getElem_toArray, List.getElem_cons_zero, List.getElem_cons_succ]
            refine wpAnyH_take (i := 14) (v := ?_) rfl (by kernel_rfl) (by kernel_rfl) (by kernel_rfl) (fun _ _ _ h => h) (Or.inl ⟨by rfl, ?_⟩) (by assumption) ?_
            rotate_left
            · (intro w hSw; (try dsimp only at hSw); go_simp; try (with_reducible rfl))
            try simp only [Act.put, List.setIfInBounds_toArray, List.set_cons_zero, List.set_cons_succ, List.getElem_toArray, List.getElem_cons_zero, List.getElem_cons_succ]
            refine wpAnyH_take (i := 15) (v := ?_) rfl (by kernel_rfl) (by kernel_rfl) (by kernel_rfl) (fun _ _ _ h => h) (Or.inl ⟨by rfl, ?_⟩) (by assumption) ?_
            rotate_left
            · (intro w hSw; (try dsimp only at hSw); go_simp; try (with_reducible rfl))
            try simp only [Act.put, List.setIfInBounds_toArray, List.set_cons_zero, List.set_cons_succ, List.getElem_toArray, List.getElem_cons_zero, List.getElem_cons_succ]
            refine wpAnyH_done (by kernel_rfl) ?_ _
            refine NoPanic.normal ?_
            clear hHeld
            show K0 _ _
            refine hK0 _ _ (Met.intro (hJ0 _ _ ?_))
            (repeat apply Exists.intro)
            exact ⟨⟨x9, rfl, HY9, rfl⟩, rfl⟩
          | false =>
            go_upto_region 16 with fail
            refine wp_region_noPanic ?_
            refine wp_region_held_drew (S := (fun w' => SY w w' w.heap.size O O2 ta tn #[.slice p0 A.path.length cp0, .int .i64 A.pref, .int .i64 A.med, .int .i64 A.org, .slice q0 A.tags.length cq0] #[.slice p5 AM.path.length cp5, .int .i64 AM.pref, .int .i64 AM.med, .int .i64 AM.org, .slice q5 AM.tags.length cq5] AM E (.iface t1 (.pointer (some a1))) cM dM #[.slice p8 AM.path.length cp8, .int .i64 AM.pref, .int .i64 AM.med, .int .i64 AM.org, .slice q8 AM.tags.length cq8] AM (.iface t8 (.pointer (some a8))) cM dM)) (by kernel_rfl) ?_ (fun hHeld => ?_)
            · exact HY.out.on (Below.refl _ _).drew
            refine wpAnyH_take (i := 0) (v := ?_) rfl (by kernel_rfl) (by kernel_rfl) (by kernel_rfl) (fun _ _ _ h => h) (Or.inl ⟨by rfl, ?_⟩) (by assumption) ?_
            rotate_left
            · (intro w hSw; (try dsimp only at hSw); go_simp; try (with_reducible rfl))
            try simp only [Act.put, List.setIfInBounds_toArray, List.set_cons_zero, List.set_cons_succ, List.getElem_toArray, List.getElem_cons_zero, List.getElem_cons_succ]
            refine wpAnyH_take (i := 1) (v := ?_) rfl (by kernel_rfl) (by kernel_rfl) (by kernel_rfl) (fun _ _ _ h => h) (Or.inl ⟨by rfl, ?_⟩) (by assumption) ?_
            rotate_left
            · (intro w hSw; (try dsimp only at hSw); go_simp; try (with_reducible rfl))
            try simp only [Act.put, List.setIfInBounds_toArray, List.set_cons_zero, List.set_cons_succ, List.getElem_toArray, List.getElem_cons_zero, List.getElem_cons_succ]
            refine wpAnyH_take (i := 2) (v := ?_) rfl (by kernel_rfl) (by kernel_rfl) (by kernel_rfl) (fun _ _ _ h => h) (Or.inl ⟨by rfl, ?_⟩) (by assumption) ?_
            rotate_left
            · (intro w hSw; (try dsimp only at hSw); go_simp; try (with_reducible rfl))
            try simp only [Act.put, List.setIfInBounds_toArray, List.set_cons_zero, List.set_cons_succ, List.getElem_toArray, List.getElem_cons_zero, List.getElem_cons_succ]
            refine wpAnyH_take (i := 3) (v := ?_) rfl (by kernel_rfl) (by kernel_rfl) (by kernel_rfl) (fun _ _ _ h => h) (Or.inl ⟨by rfl, ?_⟩) (by assumption) ?_
            rotate_left
            · (intro w hSw; (try dsimp only at hSw); go_simp; try (with_reducible rfl))
            try simp only [Act.put, List.setIfInBounds_toArray, List.set_cons_zero, List.set_cons_succ, List.getElem_toArray, List.getElem_cons_zero, List.getElem_cons_succ]
            refine wpAnyH_take (i := 4) (v := ?_) rfl (by kernel_rfl) (by kernel_rfl) (by kernel_rfl) (fun _ _ _ h => h) (Or.inl ⟨by rfl, ?_⟩) (by assumption) ?_
            rotate_left
            · (intro w hSw; (try dsimp only at hSw); go_simp; try (with_reducible rfl))
            try simp only [Act.put, List.setIfInBounds_toArray, List.set_cons_zero, List.set_cons_succ, List.getElem_toArray, List.getElem_cons_zero, List.getElem_cons_succ]
            refine wpAnyH_take (i := 5) (v := ?_) rfl (by kernel_rfl) (by kernel_rfl) (by kernel_rfl) (fun _ _ _ h => h) (Or.inl ⟨by rfl, ?_⟩) (by assumption) ?_
            rotate_left
            · (intro w hSw; (try dsimp only at hSw); go_simp; try (with_reducible rfl))
            try simp only [Act.put, List.setIfInBounds_toArray, List.set_cons_zero, List.set_cons_succ, List.getElem_toArray, List.getElem_cons_zero, List.getElem_cons_succ]
            refine wpAnyH_take (i := 6) (v := ?_) rfl (by kernel_rfl) (by kernel_rfl) (by kernel_rfl) (fun _ _ _ h => h) (Or.inl ⟨by rfl, ?_⟩) (by assumption) ?_
            rotate_left
            · (intro w hSw; (try dsimp only at hSw); go_simp; try (with_reducible rfl))
            try simp only [Act.put, List.setIfInBounds_toArray, List.set_cons_zero, List.set_cons_succ, List.getElem_toArray, List.getElem_cons_zero, List.getElem_cons_succ]
            refine wpAnyH_take (i := 7) (v := ?_) rfl (by kernel_rfl) (by kernel_rfl) (by kernel_rfl) (fun _ _ _ h => h) (Or.inl ⟨by rfl, ?_⟩) (by assumption) ?_
            rotate_left
            · (intro w hSw; (try dsimp only at hSw); go_simp; try (with_reducible rfl))
            try simp only [Act.put, List.setIfInBounds_toArray, List.set_cons_zero, List.set_cons_succ, List.getElem_toArray, List.getElem_cons_zero, List.getElem_cons_succ]
            refine wpAnyH_take (i := 8) (v := ?_) rfl (by kernel_rfl) (by kernel_rfl) (by kernel_rfl) (fun _ _ _ h => h) (Or.inl ⟨by rfl, ?_⟩) (by assumption) ?_
            rotate_left
            · (intro w hSw; (try dsimp only at hSw); go_simp; try (with_reducible rfl))
            try simp only [Act.put, List.setIfInBounds_toArray, List.set_cons_zero, List.set_cons_succ, List.getElem_toArray, List.getElem_cons_zero, List.getElem_cons_succ]
            refine wpAnyH_take (i := 9) (v := ?_) rfl (by kernel_rfl) (by kernel_rfl) (by kernel_rfl) (fun _ _ _ h => h) (Or.inl ⟨by rfl, ?_⟩) (by assumption) ?_
            rotate_left
            · (intro w hSw; (try dsimp only at hSw); go_simp; try (with_reducible rfl))
            try simp only [Act.put, List.setIfInBounds_toArray, List.set_cons_zero, List.set_cons_succ, List.getElem_toArray, List.getElem_cons_zero, List.getElem_cons_succ]
            refine wpAnyH_take (i := 10) (v := ?_) rfl (by kernel_rfl) (by kernel_rfl) (by kernel_rfl) (fun _ _ _ h => h) (Or.inl ⟨by rfl, ?_⟩) (by assumption) ?_
            rotate_left
            · (intro w hSw; (try dsimp only at hSw); go_simp; try (with_reducible rfl))
            try simp only [Act.put, List.setIfInBounds_toArray, List.set_cons_zero, List.set_cons_succ, List.getElem_toArray, List.getElem_cons_zero, List.getElem_cons_succ]
            refine wpAnyH_take (i := 11) (v := ?_) rfl (by kernel_rfl) (by kernel_rfl) (by kernel_rfl) (fun _ _ _ h => h) (Or.inl ⟨by rfl, ?_⟩) (by assumption) ?_
            rotate_left
            · intro w' hSw
              obtain ⟨g0, g1, g2, g3, g4⟩ := hSw.1.cells
              go_simp
              try (with_reducible rfl)
            try simp only [Act.put, List.setIfInBounds_toArray, List.set_cons_zero, List.set_cons_succ, List.getElem_toArray, List.getElem_cons_zero, List.getElem_cons_succ]
            refine wpAnyH_take (i := 12) (v := ?_) rfl (by kernel_rfl) (by kernel_rfl) (by kernel_rfl) (fun _ _ _ h => h) (Or.inl ⟨by rfl, ?_⟩) (by assumption) ?_
            rotate_left
            · intro w' hSw
              obtain ⟨g0, g1, g2, g3, g4⟩ := hSw.cells
              go_simp
              try (with_reducible rfl)
            try simp only [Act.put, List.setIfInBounds_toArray, List.set_cons_zero, List.set_cons_succ, List.getElem_toArray, List.getElem_cons_zero, List.getElem_cons_succ]
            refine wpAnyH_ready (rs := [13]) (by kernel_rfl) (by simp) ?_
            refine AllReadyH.cons rfl (fun K hK => ?_) AllReadyH.nil
            go_simp
            refine (HSM.out _ _ _ (HY.out.on (Below.refl _ _).drew).1.2.2.1.attr (HY.out.on (Below.refl _ _).drew).2.2.1.attr).mono ?_
            rintro e x9 ⟨rfl, hb9⟩
            obtain ⟨HY9⟩ : Nonempty (Hid (SY w x9 w.heap.size O O2 ta tn #[.slice p0 A.path.length cp0, .int .i64 A.pref, .int .i64 A.med, .int .i64 A.org, .slice q0 A.tags.length cq0] #[.slice p5 AM.path.length cp5, .int .i64 AM.pref, .int .i64 AM.med, .int .i64 AM.org, .slice q5 AM.tags.length cq5] AM E (.iface t1 (.pointer (some a1))) cM dM #[.slice p8 AM.path.length cp8, .int .i64 AM.pref, .int .i64 AM.med, .int .i64 AM.org, .slice q8 AM.tags.length cq8] AM (.iface t8 (.pointer (some a8))) cM dM)) := ⟨(HY.out.on (Below.refl _ _).drew).on hb9⟩
            clear hb9
            refine hK.out _ _ HY9.out (fun hHeld => ?_)
            clear hK K
            try simp only [Act.put, List.setIfInBounds_toArray, List.set_cons_zero, List.set_cons_succ, List.getElem_toArray, List.getElem_cons_zero, List.getElem_cons_succ]
            refine wpAnyH_take (i := 14) (v := ?_) rfl (by kernel_rfl) (by kernel_rfl) (by kernel_rfl) (fun _ _ _ h => h) (Or.inl ⟨by rfl, ?_⟩) (by assumption) ?_
            rotate_left
            · (intro w hSw; (try dsimp only at hSw); go_simp; try (with_reducible rfl))
            try simp only [Act.put, List.setIfInBounds_toArray, List.set_cons_zero, List.set_cons_succ, List.getElem_toArray, List.getElem_cons_zero, List.getElem_cons_succ]
            refine wpAnyH_take (i := 15) (v := ?_) rfl (by kernel_rfl) (by kernel_rfl) (by kernel_rfl) (fun _ _ _ h => h) (Or.inl ⟨by rfl, ?_⟩) (by assumption) ?_
            rotate_left
            · (intro w hSw; (try dsimp only at hSw); go_simp; try (with_reducible rfl))
            try simp only [Act.put, List.setIfInBounds_toArray, List.set_cons_zero, List.set_cons_succ, List.getElem_toArray, List.getElem_cons_zero, List.getElem_cons_succ]
            refine wpAnyH_done (by kernel_rfl) ?_ _
            refine NoPanic.normal ?_
            clear hHeld
            show K0 _ _
            refine hK0 _ _ (Met.intro (hJ0 _ _ ?_))
            (repeat apply Exists.intro)
            exact ⟨⟨x9, rfl, HY9, rfl⟩, rfl⟩
      case rest =>
        obtain ⟨Wy, rfl, HY, hW⟩ := hcut
        subst hW
        clear HSY
        go_wp2_with fail
        refine (HOR.out Wy HY.out.1.1.2.2).mono ?_
        rintro e y1 ⟨⟨v13, rfl, ho13⟩, hb13⟩
        obtain ⟨HX1⟩ : Nonempty (Hid (SX w y1 w.heap.size O ta tn #[.slice p0 A.path.length cp0, .int .i64 A.pref, .int .i64 A.med, .int .i64 A.org, .slice q0 A.tags.length cq0] #[.slice p5 AM.path.length cp5, .int .i64 AM.pref, .int .i64 AM.med, .int .i64 AM.org, .slice q5 AM.tags.length cq5] AM E u cM dM)) := ⟨HY.out.1.on hb13⟩
        obtain ⟨HB13⟩ : Nonempty (Hid (Below Wy.heap.size Wy y1)) := ⟨hb13⟩
        obtain ⟨HO13⟩ : Nonempty (Hid (∀ o, (y1.alloc o).ownsRow Wy.heap.size 37 11 v13 L.length (flatR L))) := ⟨fun o => ho13.alloc o⟩
        have hsz2 := hb13.size
        clear hb13 HOR
        obtain ⟨HZR⟩ : Nonempty (Hid (Rules _ _ [ruleZ])) := ⟨ruleZ_row y1⟩
        go_wp2_with (at_builtin; refine wp_addAllR rfl _ _ 22 rfl Wy.heap.size 37 i0 Tryd.underlying22 HINF.out hz0 hz1 hz2 _ L rfl (HO13.out _) (some ⟨y1.heap.size, 0, none⟩) [ruleZ] 1 1 rfl rfl (.inr ⟨_, rfl⟩) HZR.out MZ hMZ (by simp; omega) (by simp; omega) ?_)
        intro v14 y2 hown14 hb14
        obtain ⟨p15, cp15, rfl, -, -, hr15, -⟩ := own_rules hown14
        obtain ⟨HS15⟩ : Nonempty (Hid (SX w y2 w.heap.size O ta tn #[.slice p0 A.path.length cp0, .int .i64 A.pref, .int .i64 A.med, .int .i64 A.org, .slice q0 A.tags.length cq0] #[.slice p5 AM.path.length cp5, .int .i64 AM.pref, .int .i64 AM.med, .int .i64 AM.org, .slice q5 AM.tags.length cq5] AM E u cM dM ∧ Rules y2 p15 MZ)) := ⟨⟨HY.out.1.on ((HB13.out.trans ((below_alloc _ _).mono hsz2)).trans hb14), hr15⟩⟩
        clear hown14 hb14 hr15 HY HX1 HB13 HO13 hsz2 HZR
        obtain ⟨a0, a1⟩ := HS15.out.1.1.pre
        obtain ⟨b0', b1, b2, b3, b4⟩ := HS15.out.1.1.arg
        go_wp2_with fail
        refine (HAZ.out p15 cp15 y2 HS15.out.1.1.2.2 HS15.out.2).mono ?_
        rintro e y3 ⟨⟨v16, u16, rfl, hg16, hu16⟩, hb16⟩
        have hk16 := hg16.attrK
        obtain ⟨p7, cp7, q7, cq7, rfl, -, -, -, -⟩ := hg16.attrK
        obtain ⟨O2, hO2⟩ : ∃ b, Hid (y3.heap.size = b) := ⟨_, show _ = _ from rfl⟩
        obtain ⟨y4, hy4⟩ : ∃ y, Hid (y3.alloc (.cells #[.slice p7 aZ.path.length cp7, .int .i64 aZ.pref, .int .i64 aZ.med, .int .i64 aZ.org, .slice q7 aZ.tags.length cq7] 27) = y) := ⟨_, show _ = _ from rfl⟩
        obtain ⟨HY⟩ : Nonempty (Hid (SY w y4 w.heap.size O O2 ta tn #[.slice p0 A.path.length cp0, .int .i64 A.pref, .int .i64 A.med, .int .i64 A.org, .slice q0 A.tags.length cq0] #[.slice p5 AM.path.length cp5, .int .i64 AM.pref, .int .i64 AM.med, .int .i64 AM.org, .slice q5 AM.tags.length cq5] AM E u cM dM #[.slice p7 aZ.path.length cp7, .int .i64 aZ.pref, .int .i64 aZ.med, .int .i64 aZ.org, .slice q7 aZ.tags.length cq7] aZ u16 cZ dZ)) := ⟨by rw [← show y3.alloc (.cells #[.slice p7 aZ.path.length cp7, .int .i64 aZ.pref, .int .i64 aZ.med, .int .i64 aZ.org, .slice q7 aZ.tags.length cq7] 27) = y4 from hy4.out, ← show y3.heap.size = O2 from hO2.out]; exact sy_new (HS15.out.1.on hb16) hk16 hu16⟩
        clear hb16 hg16 hu16 hk16 HS15 a0 a1 b0' b1 b2 b3 b4 HAZ
        cases bM with
        | true =>
          obtain ⟨rfl, hcz, rfl⟩ := HSN.out.1 rfl
          obtain rfl : u16 = .nilIface := by
            rcases isErr_cases HY.out.2.2.2 with ⟨-, h⟩ | ⟨h, -⟩
            · exact h
            · omega
          clear hcz
          go_upto_region 22 with fail
          rw [show y3.alloc (.cells #[.slice p7 AM.path.length cp7, .int .i64 AM.pref, .int .i64 AM.med, .int .i64 AM.org, .slice q7 AM.tags.length cq7] 27) = y4 from hy4.out, show y3.heap.size = O2 from hO2.out]
          clear hy4 hO2
          obtain ⟨c0, c1, c2, c3, c4⟩ := HY.out.cells
          obtain ⟨g0, g1, g2, g3, g4⟩ := HY.out.1.cells
          go_wp2_with fail
          refine (HSM.out _ _ _ HY.out.2.2.1.attr HY.out.1.2.2.1.attr).mono ?_
          rintro e x9 ⟨rfl, hb9⟩
          have hfin := (HY.out.on hb9).1.1.2.2
          clear hb9 c0 c1 c2 c3 c4 g0 g1 g2 g3 g4 HY
          obtain ⟨HFIN⟩ : Nonempty (Hid (Below w.heap.size w x9)) := ⟨hfin⟩
          clear hfin
          go_wp2_with fail
          go_ret
          exact ⟨rfl, HFIN.out⟩
        | false =>
          rcases isErr_cases HY.out.2.2.2 with ⟨hcz, rfl⟩ | ⟨hcz, t6, a6, rfl⟩
          · cases bZ with
            | false =>
              go_upto_region 23 with fail
              rw [show y3.alloc (.cells #[.slice p7 aZ.path.length cp7, .int .i64 aZ.pref, .int .i64 aZ.med, .int .i64 aZ.org, .slice q7 aZ.tags.length cq7] 27) = y4 from hy4.out, show y3.heap.size = O2 from hO2.out]
              clear hy4 hO2
              go_wp2_with fail
              go_ret
              exact ⟨rfl, HY.out.1.1.2.2⟩
            | true =>
              obtain rfl : A = aZ := by
                rcases HSN.out.2 rfl with h | h | h
                · omega
                · cases h
                · exact h
              clear hcz
              go_upto_region 23 with fail
              rw [show y3.alloc (.cells #[.slice p7 A.path.length cp7, .int .i64 A.pref, .int .i64 A.med, .int .i64 A.org, .slice q7 A.tags.length cq7] 27) = y4 from hy4.out, show y3.heap.size = O2 from hO2.out]
              clear hy4 hO2
              obtain ⟨c0, c1, c2, c3, c4⟩ := HY.out.cells
              obtain ⟨g0, g1, g2, g3, g4⟩ := HY.out.1.1.arg
              go_wp2_with fail
              refine (HSA.out _ _ _ HY.out.2.2.1.attr (HAK.out _ HY.out.1.1.2.2).attr).mono ?_
              rintro e x9 ⟨rfl, hb9⟩
              have hfin := (HY.out.on hb9).1.1.2.2
              clear hb9 c0 c1 c2 c3 c4 g0 g1 g2 g3 g4 HY
              obtain ⟨HFIN⟩ : Nonempty (Hid (Below w.heap.size w x9)) := ⟨hfin⟩
              clear hfin
              go_wp2_with fail
              go_ret
              exact ⟨rfl, HFIN.out⟩
          · clear hcz
            go_upto_region 23 with fail
            rw [show y3.alloc (.cells #[.slice p7 aZ.path.length cp7, .int .i64 aZ.pref, .int .i64 aZ.med, .int .i64 aZ.org, .slice q7 aZ.tags.length cq7] 27) = y4 from hy4.out, show y3.heap.size = O2 from hO2.out]
            clear hy4 hO2
            go_wp2_with fail
            go_ret
            exact ⟨rfl, HY.out.1.1.2.2⟩
end Go.Proofs.YtnifhaopjhgmnaaDoor
