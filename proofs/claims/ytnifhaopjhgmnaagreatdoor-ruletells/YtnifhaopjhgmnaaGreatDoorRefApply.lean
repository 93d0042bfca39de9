/-
  The document's ApplyOf: what it returns.
-/
import Derived.Test.YtnifhaopjhgmnaaGreatDoorRefApp0
namespace Go.Proofs.YtnifhaopjhgmnaaGreatDoor
open Go.RowKit

set_option linter.unusedSimpArgs false in
set_option linter.unusedVariables false in
set_option maxRecDepth 100000 in
set_option maxHeartbeats 8000000 in
theorem rApply_none (p : Option Addr) (L : List Rl) (cp : Nat) (x ta tn : Int) (v : Value) (A : At) (w : World) (h : Rules w p L) (ha : AttrK w v A) (hl : L.length ≤ 1000000) (h1 : A.path.length ≤ 1000) (h2 : A.tags.length ≤ 1000)
    (hc : ¬ 0 < (allC L ta tn A).1) (hn : L.length = 0) :
    Calls Tryz.prog 14 #[.slice p L.length cp, .int .i64 x, .agg #[.int .i64 ta, .int .i64 tn], v] w fun r w' => (∃ v', r = .returned (.tuple #[v', .bool true, .agg #[.int .i64 0, .int .i64 (-1)]]) ∧ AttrK w' v' A) ∧ Below w.heap.size w w' := by
  have ha0 := ha
  obtain ⟨p0, cp0, q0, cq0, rfl, i1, i2, k1, k2⟩ := ha
  obtain ⟨c1, hc1⟩ : ∃ c : Int, Hid (((rulesC L).1 : Int) = c) := ⟨_, show _ = _ from rfl⟩
  obtain ⟨d1, hd1⟩ : ∃ c : Int, Hid ((rulesC L).2 = c) := ⟨_, show _ = _ from rfl⟩
  obtain ⟨cq, hcq⟩ : ∃ c : Int, Hid ((chkC ta tn : Int) = c) := ⟨_, show _ = _ from rfl⟩
  obtain ⟨ca, hca⟩ : ∃ c : Int, Hid ((faultA A).1 = c) := ⟨_, show _ = _ from rfl⟩
  obtain ⟨da, hda⟩ : ∃ c : Int, Hid ((faultA A).2 = c) := ⟨_, show _ = _ from rfl⟩
  obtain ⟨g1, hg1⟩ : ∃ c : Int, Hid ((if c1 = 0 then cq else c1) = c) := ⟨_, show _ = _ from rfl⟩
  obtain ⟨e1, he1⟩ : ∃ c : Int, Hid ((if c1 = 0 then -1 else d1) = c) := ⟨_, show _ = _ from rfl⟩
  obtain ⟨g2, hg2⟩ : ∃ c : Int, Hid ((if g1 = 0 then ca else g1) = c) := ⟨_, show _ = _ from rfl⟩
  obtain ⟨e2, he2⟩ : ∃ c : Int, Hid ((if g1 = 0 then -1 else e1) = c) := ⟨_, show _ = _ from rfl⟩
  have HALL := all_steps L ta tn A c1 d1 cq ca g1 e1 g2 e2 hc1.out hd1.out hcq.out hca.out hg1.out he1.out hg2.out he2.out
  obtain ⟨HRF⟩ : Nonempty (Hid (∀ w', Below w.heap.size w w' → Calls _ _ _ _ _)) := ⟨fun w' hb => rRulesFault_any p L cp w' (h.below hb) hl c1 d1 ⟨hc1.out, hd1.out⟩⟩
  obtain ⟨HPE⟩ : Nonempty (Hid (∀ w', Calls _ _ _ _ _)) := ⟨fun w' => rPrefixError_at ta tn cq hcq w'⟩
  obtain ⟨HAF⟩ : Nonempty (Hid (∀ w', Below w.heap.size w w' → Calls _ _ _ _ _)) := ⟨fun w' hb => rAttrFault_any (.agg #[.slice p0 A.path.length cp0, .int .i64 A.pref, .int .i64 A.med, .int .i64 A.org, .slice q0 A.tags.length cq0]) A w' (ha0.below hb).attr (by omega) (by omega) ca da (by show _ = _; rw [← hca.out, ← hda.out])⟩
  obtain ⟨HG1⟩ : Nonempty (Hid ((c1 = 0 → g1 = cq ∧ e1 = -1) ∧ (¬ c1 = 0 → g1 = c1 ∧ e1 = d1) ∧ (g1 = 0 → g2 = ca ∧ e2 = -1) ∧ (¬ g1 = 0 → g2 = g1 ∧ e2 = e1))) := ⟨by
    rw [← hg2.out, ← he2.out, ← hg1.out, ← he1.out]
    exact ⟨fun h => by simp [h], fun h => by simp [h], fun h => by simp [h], fun h => by simp [h]⟩⟩
  obtain ⟨HG⟩ : Nonempty (Hid (g2 = 0 ∧ ∀ w', Below w.heap.size w w' → AttrP w' (.agg #[.slice p0 A.path.length cp0, .int .i64 A.pref, .int .i64 A.med, .int .i64 A.org, .slice q0 A.tags.length cq0]) A w.heap.size)) := ⟨⟨by have := HALL.1; omega, fun w' hb => by
    obtain ⟨p, cp, q, cq, e, j1, j2, j3, j4, n1, n2⟩ := attrP_of ha0 rfl
    exact ⟨p, cp, q, cq, e, j1.below hb, j2.below hb, j3, j4, n1, n2⟩⟩⟩
  have hn' : ((L.length : Int) == 0) = true := by rw [beq_iff_eq]; omega
  obtain ⟨HO⟩ : Nonempty (Hid (AO w _ w.heap.size ta tn #[.slice p0 A.path.length cp0, .int .i64 A.pref, .int .i64 A.med, .int .i64 A.org, .slice q0 A.tags.length cq0])) := ⟨ao_start w ta tn _⟩
  obtain ⟨W0, hW0⟩ : ∃ W0, Hid ((((w.alloc (.cells #[.int .i64 ta, .int .i64 tn] 24)).alloc (.cells #[.slice p0 A.path.length cp0, .int .i64 A.pref, .int .i64 A.med, .int .i64 A.org, .slice q0 A.tags.length cq0] 27)).alloc (.cells #[.slice none 0 0, .int .i64 0, .int .i64 0, .int .i64 0, .slice none 0 0] 27)).alloc (.cells #[.int .i64 0, .int .i64 0] 36) = W0) := ⟨_, show _ = _ from rfl⟩
  rw [show (((w.alloc (.cells #[.int .i64 ta, .int .i64 tn] 24)).alloc (.cells #[.slice p0 A.path.length cp0, .int .i64 A.pref, .int .i64 A.med, .int .i64 A.org, .slice q0 A.tags.length cq0] 27)).alloc (.cells #[.slice none 0 0, .int .i64 0, .int .i64 0, .int .i64 0, .slice none 0 0] 27)).alloc (.cells #[.int .i64 0, .int .i64 0] 36) = W0 from hW0.out] at HO
  obtain ⟨B, hB⟩ : ∃ B, Hid (w.heap.size = B) := ⟨_, show _ = _ from rfl⟩
  clear hc1 hd1 hcq hca hda hg1 he1 hg2 he2 h h1 h2 i1 i2 k1 k2 ha0 HALL hc hn hl
  go_enter Tryz.func14, Tryz.ntmps14
  go_wp2_with fail
  rw [show (((w.alloc (.cells #[.int .i64 ta, .int .i64 tn] 24)).alloc (.cells #[.slice p0 A.path.length cp0, .int .i64 A.pref, .int .i64 A.med, .int .i64 A.org, .slice q0 A.tags.length cq0] 27)).alloc (.cells #[.slice none 0 0, .int .i64 0, .int .i64 0, .int .i64 0, .slice none 0 0] 27)).alloc (.cells #[.int .i64 0, .int .i64 0] 36) = W0 from hW0.out]
  clear hW0
  rw [show w.heap.size = B from hB.out] at HO HRF HAF HG ⊢
  refine (HRF.out W0 HO.out.2.2.2.2).mono ?_
  rintro e w1 ⟨rfl, hb1⟩
  obtain ⟨HO1⟩ : Nonempty (Hid (AO w w1 B ta tn #[.slice p0 A.path.length cp0, .int .i64 A.pref, .int .i64 A.med, .int .i64 A.org, .slice q0 A.tags.length cq0])) := ⟨HO.out.on hb1⟩
  obtain ⟨FB0, hFB⟩ : ∃ b, Hid (w1.heap.size = b) := ⟨_, show _ = _ from rfl⟩
  obtain ⟨W1, hW1⟩ : ∃ y, Hid (w1.alloc (.cells #[.int .i64 c1, .int .i64 d1] 36) = y) := ⟨_, show _ = _ from rfl⟩
  obtain ⟨HF1⟩ : Nonempty (Hid (AO w W1 B ta tn #[.slice p0 A.path.length cp0, .int .i64 A.pref, .int .i64 A.med, .int .i64 A.org, .slice q0 A.tags.length cq0] ∧ W1.heap[FB0]? = some (.cells #[.int .i64 c1, .int .i64 d1] 36 (0, 0)) ∧ B + 3 < FB0)) := ⟨by
    rw [← show w1.alloc (.cells #[.int .i64 c1, .int .i64 d1] 36) = W1 from hW1.out, ← show w1.heap.size = FB0 from hFB.out]
    exact ⟨HO1.out.on (below_alloc _ _), Go.heap_alloc_new _ _, HO1.out.size⟩⟩
  clear HO hb1 HRF
  go_upto_if 20 with fail
  rw [show w1.alloc (.cells #[.int .i64 c1, .int .i64 d1] 36) = W1 from hW1.out, show w1.heap.size = FB0 from hFB.out]
  clear hW1 hFB HO1
  go_cut [] from 16 (fun w' => ∃ W : World, Hid (AO w W B ta tn #[.slice p0 A.path.length cp0, .int .i64 A.pref, .int .i64 A.med, .int .i64 A.org, .slice q0 A.tags.length cq0] ∧ W.heap[FB0]? = some (.cells #[.int .i64 g1, .int .i64 e1] 36 (0, 0)) ∧ B + 3 < FB0) ∧ W = w')
  case first =>
    have hf := HF1.out.2.1
    have f0 : W1.cell? ⟨FB0, 0, none⟩ = some (.int .i64 c1) := by simp [World.cell?, hf]
    by_cases hz : c1 = 0
    · obtain ⟨rfl, rfl⟩ := HG1.out.1 hz
      subst hz
      obtain ⟨a0, a1⟩ := HF1.out.1.pre
      clear hf
      go_wp2_with fail
      refine (HPE.out _).mono ?_
      rintro e w2 ⟨rfl, hb2⟩
      obtain ⟨HF2⟩ : Nonempty (Hid (AO w w2 B ta tn #[.slice p0 A.path.length cp0, .int .i64 A.pref, .int .i64 A.med, .int .i64 A.org, .slice q0 A.tags.length cq0] ∧ w2.heap[FB0]? = some (.cells #[.int .i64 0, .int .i64 d1] 36 (0, 0)))) := ⟨⟨HF1.out.1.on hb2, by rw [hb2.block _ (Array.getElem?_eq_some_iff.1 HF1.out.2.1).1]; exact HF1.out.2.1⟩⟩
      clear hb2 a0 a1 f0
      go_wp2_with fail
      refine (aBare_any _ _).mono ?_
      rintro e w3 ⟨rfl, hb3⟩
      obtain ⟨HF3⟩ : Nonempty (Hid (AO w w3 B ta tn #[.slice p0 A.path.length cp0, .int .i64 A.pref, .int .i64 A.med, .int .i64 A.org, .slice q0 A.tags.length cq0] ∧ w3.heap[FB0]? = some (.cells #[.int .i64 0, .int .i64 d1] 36 (0, 0)))) := ⟨⟨HF2.out.1.on hb3, by rw [hb3.block _ (Array.getElem?_eq_some_iff.1 HF2.out.2).1]; exact HF2.out.2⟩⟩
      have hf := HF3.out.2
      have f0 : w3.cell? ⟨FB0, 0, none⟩ = some (.int .i64 0) := by simp [World.cell?, hf]
      have f1 : w3.cell? ⟨FB0, 1, none⟩ = some (.int .i64 d1) := by simp [World.cell?, hf]
      have y0 : w3.frozen? ⟨FB0, 0, none⟩ = false := by simp [World.frozen?, hf]
      have y1 : w3.frozen? ⟨FB0, 1, none⟩ = false := by simp [World.frozen?, hf]
      clear hb3 hf HF2
      go_wp2_with fail
      go_meet
      refine ⟨_, ⟨(HF3.out.1.setO HF1.out.2.2 _ _).setO HF1.out.2.2 _ _, ?_, HF1.out.2.2⟩, rfl⟩
      have h1 := heap_setCell_same _ FB0 1 _ _ (.int .i64 (-1)) (heap_setCell_same _ FB0 0 _ _ (.int .i64 g1) HF3.out.2)
      simpa using h1
    · obtain ⟨rfl, rfl⟩ := HG1.out.2.1 hz
      have hz' : (g1 == 0) = false := by rw [beq_eq_false_iff_ne]; exact hz
      clear hf
      go_wp2_with fail
      go_meet
      exact ⟨_, HF1.out, rfl⟩
  case rest =>
    obtain ⟨W2, HF2, hw2⟩ := hcut
    subst hw2
    clear HF1 HPE
    have hf := HF2.out.2.1
    have f0 : W2.cell? ⟨FB0, 0, none⟩ = some (.int .i64 g1) := by simp [World.cell?, hf]
    clear hf
    go_upto_if 26 with fail
    go_cut [] from 16 (fun w' => ∃ W : World, Hid (AO w W B ta tn #[.slice p0 A.path.length cp0, .int .i64 A.pref, .int .i64 A.med, .int .i64 A.org, .slice q0 A.tags.length cq0] ∧ W.heap[FB0]? = some (.cells #[.int .i64 g2, .int .i64 e2] 36 (0, 0)) ∧ B + 3 < FB0) ∧ W = w')
    case first =>
      by_cases hz : g1 = 0
      · obtain ⟨rfl, rfl⟩ := HG1.out.2.2.1 hz
        subst hz
        obtain ⟨a0, a1, a2, a3, a4⟩ := HF2.out.1.arg
        go_wp2_with fail
        refine (HAF.out _ HF2.out.1.2.2.2.2).mono ?_
        rintro e w3 ⟨rfl, hb3⟩
        obtain ⟨HF3⟩ : Nonempty (Hid (AO w w3 B ta tn #[.slice p0 A.path.length cp0, .int .i64 A.pref, .int .i64 A.med, .int .i64 A.org, .slice q0 A.tags.length cq0] ∧ w3.heap[FB0]? = some (.cells #[.int .i64 0, .int .i64 e1] 36 (0, 0)))) := ⟨⟨HF2.out.1.on hb3, by rw [hb3.block _ (Array.getElem?_eq_some_iff.1 HF2.out.2.1).1]; exact HF2.out.2.1⟩⟩
        have hfd := field_code g2 da
        clear hb3 a0 a1 a2 a3 a4 f0
        go_wp2_with fail
        refine (aBare_any _ _).mono ?_
        rintro e w4 ⟨rfl, hb4⟩
        obtain ⟨HF4⟩ : Nonempty (Hid (AO w w4 B ta tn #[.slice p0 A.path.length cp0, .int .i64 A.pref, .int .i64 A.med, .int .i64 A.org, .slice q0 A.tags.length cq0] ∧ w4.heap[FB0]? = some (.cells #[.int .i64 0, .int .i64 e1] 36 (0, 0)))) := ⟨⟨HF3.out.1.on hb4, by rw [hb4.block _ (Array.getElem?_eq_some_iff.1 HF3.out.2).1]; exact HF3.out.2⟩⟩
        have hf := HF4.out.2
        have f0 : w4.cell? ⟨FB0, 0, none⟩ = some (.int .i64 0) := by simp [World.cell?, hf]
        have f1 : w4.cell? ⟨FB0, 1, none⟩ = some (.int .i64 e1) := by simp [World.cell?, hf]
        have y0 : w4.frozen? ⟨FB0, 0, none⟩ = false := by simp [World.frozen?, hf]
        have y1 : w4.frozen? ⟨FB0, 1, none⟩ = false := by simp [World.frozen?, hf]
        clear hb4 hf HF3
        go_wp2_with fail
        go_meet
        refine ⟨_, ⟨(HF4.out.1.setO HF2.out.2.2 _ _).setO HF2.out.2.2 _ _, ?_, HF2.out.2.2⟩, rfl⟩
        have h1 := heap_setCell_same _ FB0 1 _ _ (.int .i64 (-1)) (heap_setCell_same _ FB0 0 _ _ (.int .i64 g2) HF4.out.2)
        simpa using h1
      · obtain ⟨rfl, rfl⟩ := HG1.out.2.2.2 hz
        have hz' : (g2 == 0) = false := by rw [beq_eq_false_iff_ne]; exact hz
        go_wp2_with fail
        go_meet
        exact ⟨_, HF2.out, rfl⟩
    case rest =>
      obtain ⟨W3, HF3, hw3⟩ := hcut
      subst hw3
      clear HF2 HAF f0 HG1
      have hf := HF3.out.2.1
      have f0 : W3.cell? ⟨FB0, 0, none⟩ = some (.int .i64 g2) := by simp [World.cell?, hf]
      have f1 : W3.cell? ⟨FB0, 1, none⟩ = some (.int .i64 e2) := by simp [World.cell?, hf]
      clear hf
      obtain rfl : g2 = 0 := HG.out.1
      go_upto_if 38 with fail
      clear f0 f1
      go_upto_region 9 with fail
      refine wp_region_noPanic ?_
      refine wp_region_held_drew (S := (fun w' => w'.heap[B + 1]? = some (.cells #[.slice p0 A.path.length cp0, .int .i64 A.pref, .int .i64 A.med, .int .i64 A.org, .slice q0 A.tags.length cq0] 27 (0, 0)))) (by kernel_rfl) ?_ (fun hHeld => ?_)
      · exact HF3.out.1.2.1
      refine wpAnyH_take (i := 0) (v := ?_) rfl (by kernel_rfl) (by kernel_rfl) (by kernel_rfl) (fun _ _ _ h => h) (Or.inl ⟨by rfl, ?_⟩) (by assumption) ?_
      rotate_left
      · intro w' hSw
        have e0 : w'.cell? ⟨B + 1, 0, none⟩ = some (.slice p0 A.path.length cp0) := by simp [World.cell?, hSw]
        have e1 : w'.cell? ⟨B + 1, 1, none⟩ = some (.int .i64 A.pref) := by simp [World.cell?, hSw]
        have e2 : w'.cell? ⟨B + 1, 2, none⟩ = some (.int .i64 A.med) := by simp [World.cell?, hSw]
        have e3 : w'.cell? ⟨B + 1, 3, none⟩ = some (.int .i64 A.org) := by simp [World.cell?, hSw]
        have e4 : w'.cell? ⟨B + 1, 4, none⟩ = some (.slice q0 A.tags.length cq0) := by simp [World.cell?, hSw]
        go_simp
        try (with_reducible rfl)
      try simp only [Act.put, List.setIfInBounds_toArray, List.set_cons_zero, List.set_cons_succ, List.getElem_toArray, List.getElem_cons_zero, List.getElem_cons_succ]
      refine wpAnyH_ready (rs := [1]) (by kernel_rfl) (by simp) ?_
      refine AllReadyH.cons rfl (fun K hK => ?_) AllReadyH.nil
      go_simp
      refine (aFine_any _).mono ?_
      rintro e x1 ⟨rfl, hb⟩
      obtain ⟨HO1⟩ : Nonempty (Hid (AO w x1 B ta tn #[.slice p0 A.path.length cp0, .int .i64 A.pref, .int .i64 A.med, .int .i64 A.org, .slice q0 A.tags.length cq0])) := ⟨(HF3.out.1.on (Below.refl _ _).drew).on hb⟩
      obtain ⟨HB1⟩ : Nonempty (Hid (Below W3.heap.size W3 x1)) := ⟨(Below.refl _ _).drew.trans hb⟩
      clear hb
      refine hK.out _ _ HO1.out.2.1 (fun hHeld => ?_)
      clear hK K
      try simp only [Act.put, List.setIfInBounds_toArray, List.set_cons_zero, List.set_cons_succ, List.getElem_toArray, List.getElem_cons_zero, List.getElem_cons_succ]
      obtain ⟨r0, r1, r2, r3, r4, s0, s1⟩ := HO1.out.res
      have y0 := (HO1.out.soft 0).2.1
      have y1 := (HO1.out.soft 1).2.1
      have y2 := (HO1.out.soft 2).2.1
      have y3 := (HO1.out.soft 3).2.1
      have y4 := (HO1.out.soft 4).2.1
      have z0 := (HO1.out.soft 0).2.2
      have z1 := (HO1.out.soft 1).2.2
      refine wpAnyH_ready (rs := [2]) (by kernel_rfl) (by simp) ?_
      refine AllReadyH.cons rfl (fun K hK => ?_) AllReadyH.nil
      go_simp
      obtain ⟨x2, hx2⟩ : ∃ y, Hid (((((x1.setCell ⟨B + 1 + 1, 0, none⟩ (.slice p0 A.path.length cp0)).setCell ⟨B + 1 + 1, 1, none⟩ (.int .i64 A.pref)).setCell ⟨B + 1 + 1, 2, none⟩ (.int .i64 A.med)).setCell ⟨B + 1 + 1, 3, none⟩ (.int .i64 A.org)).setCell ⟨B + 1 + 1, 4, none⟩ (.slice q0 A.tags.length cq0) = y) := ⟨_, show _ = _ from rfl⟩
      obtain ⟨H2⟩ : Nonempty (Hid (x2.heap[B + 2]? = some (.cells #[.slice p0 A.path.length cp0, .int .i64 A.pref, .int .i64 A.med, .int .i64 A.org, .slice q0 A.tags.length cq0] 27 (0, 0)) ∧ Below B w x2 ∧ x2.heap[B + 1]? = x1.heap[B + 1]? ∧ x2.heap[B + 3]? = some (.cells #[.int .i64 0, .int .i64 0] 36 (0, 0)))) := ⟨by
        rw [← show ((((x1.setCell ⟨B + 1 + 1, 0, none⟩ (.slice p0 A.path.length cp0)).setCell ⟨B + 1 + 1, 1, none⟩ (.int .i64 A.pref)).setCell ⟨B + 1 + 1, 2, none⟩ (.int .i64 A.med)).setCell ⟨B + 1 + 1, 3, none⟩ (.int .i64 A.org)).setCell ⟨B + 1 + 1, 4, none⟩ (.slice q0 A.tags.length cq0) = x2 from hx2.out]
        exact ⟨set5_n (R := B + 1 + 1) HO1.out.2.2.1 _ _ _ _ _, setFive (R := B + 1 + 1) HO1.out.2.2.2.2 (by omega) _ _ _ _ _, five_n x1 (B + 1 + 1) (B + 1) (by omega) _ _ _ _ _, (five_n x1 (B + 1 + 1) (B + 3) (by omega) _ _ _ _ _).trans HO1.out.2.2.2.1⟩⟩
      obtain ⟨HA2⟩ : Nonempty (Hid (AttrP x2 (.agg #[.slice p0 A.path.length cp0, .int .i64 A.pref, .int .i64 A.med, .int .i64 A.org, .slice q0 A.tags.length cq0]) A B)) := ⟨by
        rw [← show ((((x1.setCell ⟨B + 1 + 1, 0, none⟩ (.slice p0 A.path.length cp0)).setCell ⟨B + 1 + 1, 1, none⟩ (.int .i64 A.pref)).setCell ⟨B + 1 + 1, 2, none⟩ (.int .i64 A.med)).setCell ⟨B + 1 + 1, 3, none⟩ (.int .i64 A.org)).setCell ⟨B + 1 + 1, 4, none⟩ (.slice q0 A.tags.length cq0) = x2 from hx2.out]
        exact ((HG.out.2 W3 HF3.out.1.2.2.2.2).on HB1.out).set5 (R := B + 1 + 1) (by omega) (by omega) _ _ _ _ _⟩
      rw [show ((((x1.setCell ⟨B + 1 + 1, 0, none⟩ (.slice p0 A.path.length cp0)).setCell ⟨B + 1 + 1, 1, none⟩ (.int .i64 A.pref)).setCell ⟨B + 1 + 1, 2, none⟩ (.int .i64 A.med)).setCell ⟨B + 1 + 1, 3, none⟩ (.int .i64 A.org)).setCell ⟨B + 1 + 1, 4, none⟩ (.slice q0 A.tags.length cq0) = x2 from hx2.out]
      clear hx2 r0 r1 r2 r3 r4 s0 s1 y0 y1 y2 y3 y4 z0 z1
      refine hK.out _ _ (H2.out.2.2.1.trans HO1.out.2.1) (fun hHeld => ?_)
      clear hK K
      try simp only [Act.put, List.setIfInBounds_toArray, List.set_cons_zero, List.set_cons_succ, List.getElem_toArray, List.getElem_cons_zero, List.getElem_cons_succ]
      refine wpAnyH_take (i := 3) (v := ?_) rfl (by kernel_rfl) (by kernel_rfl) (by kernel_rfl) (fun _ _ _ h => h) (Or.inl ⟨by rfl, ?_⟩) (by assumption) ?_
      rotate_left
      · (intro w hSw; (try dsimp only at hSw); go_simp; try (with_reducible rfl))
      try simp only [Act.put, List.setIfInBounds_toArray, List.set_cons_zero, List.set_cons_succ, List.getElem_toArray, List.getElem_cons_zero, List.getElem_cons_succ]
      have hq := H2.out.2.2.2
      have s0 : x2.cell? ⟨B + 1 + 1 + 1, 0, none⟩ = some (.int .i64 0) := by simp [World.cell?, hq]
      have s1 : x2.cell? ⟨B + 1 + 1 + 1, 1, none⟩ = some (.int .i64 0) := by simp [World.cell?, hq]
      have z0 : x2.frozen? ⟨B + 1 + 1 + 1, 0, none⟩ = false := by simp [World.frozen?, hq]
      have z1 : x2.frozen? ⟨B + 1 + 1 + 1, 1, none⟩ = false := by simp [World.frozen?, hq]
      clear hq
      refine wpAnyH_ready (rs := [4]) (by kernel_rfl) (by simp) ?_
      refine AllReadyH.cons rfl (fun K hK => ?_) AllReadyH.nil
      go_simp
      obtain ⟨x9, hx9⟩ : ∃ y, Hid ((x2.setCell ⟨B + 1 + 1 + 1, 0, none⟩ (.int .i64 0)).setCell ⟨B + 1 + 1 + 1, 1, none⟩ (.int .i64 (-1)) = y) := ⟨_, show _ = _ from rfl⟩
      obtain ⟨H9⟩ : Nonempty (Hid (x9.heap[B + 2]? = some (.cells #[.slice p0 A.path.length cp0, .int .i64 A.pref, .int .i64 A.med, .int .i64 A.org, .slice q0 A.tags.length cq0] 27 (0, 0)) ∧ x9.heap[B + 3]? = some (.cells #[.int .i64 0, .int .i64 (-1)] 36 (0, 0)) ∧ Below B w x9 ∧ x9.heap[B + 1]? = x2.heap[B + 1]? ∧ AttrP x9 (.agg #[.slice p0 A.path.length cp0, .int .i64 A.pref, .int .i64 A.med, .int .i64 A.org, .slice q0 A.tags.length cq0]) A B)) := ⟨by
        rw [← show (x2.setCell ⟨B + 1 + 1 + 1, 0, none⟩ (.int .i64 0)).setCell ⟨B + 1 + 1 + 1, 1, none⟩ (.int .i64 (-1)) = x9 from hx9.out]
        have h1 := heap_setCell_same _ (B + 1 + 1 + 1) 1 _ _ (.int .i64 (-1)) (heap_setCell_same _ (B + 1 + 1 + 1) 0 _ _ (.int .i64 0) (H2.out.2.2.2))
        refine ⟨by rw [Below.heap_setCell _ _ _ _ (by simp), Below.heap_setCell _ _ _ _ (by simp)]; exact H2.out.1, by simpa using h1, ((H2.out.2.1).setCell (by simp; omega) _).setCell (by simp; omega) _, by rw [Below.heap_setCell _ _ _ _ (by simp <;> omega), Below.heap_setCell _ _ _ _ (by simp <;> omega)], (HA2.out.set (R := B + 1 + 1 + 1) (by omega) (by omega) _ _).set (R := B + 1 + 1 + 1) (by omega) (by omega) _ _⟩⟩
      rw [show (x2.setCell ⟨B + 1 + 1 + 1, 0, none⟩ (.int .i64 0)).setCell ⟨B + 1 + 1 + 1, 1, none⟩ (.int .i64 (-1)) = x9 from hx9.out]
      clear hx9 s0 s1 z0 z1
      refine hK.out _ _ (H9.out.2.2.2.1.trans (H2.out.2.2.1.trans HO1.out.2.1)) (fun hHeld => ?_)
      clear hK K
      try simp only [Act.put, List.setIfInBounds_toArray, List.set_cons_zero, List.set_cons_succ, List.getElem_toArray, List.getElem_cons_zero, List.getElem_cons_succ]
      refine wpAnyH_done (by kernel_rfl) ?_ _
      refine NoPanic.normal ?_
      clear hHeld
      have hq := H9.out.1
      have hq' := H9.out.2.1
      have r0 : x9.cell? ⟨B + 1 + 1, 0, none⟩ = some (.slice p0 A.path.length cp0) := by simp [World.cell?, hq]
      have r1 : x9.cell? ⟨B + 1 + 1, 1, none⟩ = some (.int .i64 A.pref) := by simp [World.cell?, hq]
      have r2 : x9.cell? ⟨B + 1 + 1, 2, none⟩ = some (.int .i64 A.med) := by simp [World.cell?, hq]
      have r3 : x9.cell? ⟨B + 1 + 1, 3, none⟩ = some (.int .i64 A.org) := by simp [World.cell?, hq]
      have r4 : x9.cell? ⟨B + 1 + 1, 4, none⟩ = some (.slice q0 A.tags.length cq0) := by simp [World.cell?, hq]
      have s0 : x9.cell? ⟨B + 1 + 1 + 1, 0, none⟩ = some (.int .i64 0) := by simp [World.cell?, hq']
      have s1 : x9.cell? ⟨B + 1 + 1 + 1, 1, none⟩ = some (.int .i64 (-1)) := by simp [World.cell?, hq']
      clear hq hq'
      go_wp2_with fail
      refine bodyPost_ret (v := .tuple #[.agg #[.slice p0 A.path.length cp0, .int .i64 A.pref, .int .i64 A.med, .int .i64 A.org, .slice q0 A.tags.length cq0], .bool true, .agg #[.int .i64 0, .int .i64 (-1)]]) (by simp [results, Tryz.results14, go_sem, r0, r1, r2, r3, r4, s0, s1]) rfl ⟨⟨_, rfl, H9.out.2.2.2.2.attrK⟩, ?_⟩
      rw [show w.heap.size = B from hB.out]
      exact H9.out.2.2.1
end Go.Proofs.YtnifhaopjhgmnaaGreatDoor
