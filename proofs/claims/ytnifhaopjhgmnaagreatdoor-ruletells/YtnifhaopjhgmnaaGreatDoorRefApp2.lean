/-
  The document's ApplyOf: what it returns where there are rules.
-/
import Derived.Test.YtnifhaopjhgmnaaGreatDoorRefApply
namespace Go.Proofs.YtnifhaopjhgmnaaGreatDoor
open Go.RowKit

set_option linter.unusedSimpArgs false in
set_option linter.unusedVariables false in
set_option maxRecDepth 100000 in
set_option maxHeartbeats 8000000 in
theorem rApply_run (p : Option Addr) (L : List Rl) (cp : Nat) (x ta tn : Int) (v : Value) (A : At) (w : World) (h : Rules w p L) (ha : AttrK w v A) (hl : L.length ≤ 1000000) (h1 : A.path.length ≤ 1000) (h2 : A.tags.length ≤ 1000)
    (hc : ¬ 0 < (allC L ta tn A).1) (hn : ¬ L.length = 0) :
    Calls Tryz.prog 14 #[.slice p L.length cp, .int .i64 x, .agg #[.int .i64 ta, .int .i64 tn], v] w fun r w' => (∃ v', r = .returned (.tuple #[v', .bool (if goB L ta tn A = true then decide (madeC (ruleN L (fitK L ta tn A)) x A = 0) else false), .agg #[.int .i64 (if goB L ta tn A = true then ((madeC (ruleN L (fitK L ta tn A)) x A : Nat) : Int) else 0), .int .i64 (-1)]]) ∧ AttrK w' v' (if goB L ta tn A = true then (if madeC (ruleN L (fitK L ta tn A)) x A = 0 then madeA (ruleN L (fitK L ta tn A)) x A else noneA) else noneA)) ∧ Below w.heap.size w w' := by
  have ha0 := ha
  obtain ⟨p0, cp0, q0, cq0, rfl, i1, i2, k1, k2⟩ := ha
  obtain ⟨c1, hc1⟩ : ∃ c : Int, Hid (((rulesC L).1 : Int) = c) := ⟨_, show _ = _ from rfl⟩
  obtain ⟨d1, hd1⟩ : ∃ c : Int, Hid ((rulesC L).2 = c) := ⟨_, show _ = _ from rfl⟩
  obtain ⟨cq, hcq⟩ : ∃ c : Int, Hid ((chkC ta tn : Int) = c) := ⟨_, show _ = _ from rfl⟩
  obtain ⟨ca, hca⟩ : ∃ c : Int, Hid ((faultA A).1 = c) := ⟨_, show _ = _ from rfl⟩
  obtain ⟨da, hda⟩ : ∃ c : Int, Hid ((faultA A).2 = c) := ⟨_, show _ = _ from rfl⟩
  obtain ⟨g1, hg1⟩ : ∃ c : Int, Hid ((if c1 = 0 then cq else c1) = c) := ⟨_, show _ = _ from rfl⟩
  obtain ⟨e1, he1⟩ : ∃ c : Int, Hid ((if c1 = 0 then -1 else d1) = c) := ⟨_, show _ = _ from rfl⟩
  obtain ⟨g2, hg2⟩ : ∃ c : Int, Hid ((if g1 = 0 then ca else g1) = c) := ⟨_, show _ = _ from rfl⟩
  obtain ⟨e2, he2⟩ : ∃ c : Int, Hid ((if g1 = 0 then -1 else e1) = c) := ⟨_, show _ = _ from rfl⟩
  have HALL := all_steps L ta tn A c1 d1 cq ca g1 e1 g2 e2 hc1.out hd1.out hcq.out hca.out hg1.out he1.out hg2.out he2.out
  obtain ⟨HRF⟩ : Nonempty (Hid (∀ w', Below w.heap.size w w' → Calls _ _ _ _ _)) := ⟨fun w' hb => rRulesFault_any p L cp w' (h.below hb) hl c1 d1 ⟨hc1.out, hd1.out⟩⟩
  obtain ⟨HPE⟩ : Nonempty (Hid (∀ w', Calls _ _ _ _ _)) := ⟨fun w' => rPrefixError_at ta tn cq hcq w'⟩
  obtain ⟨HAF⟩ : Nonempty (Hid (∀ w', Below w.heap.size w w' → Calls _ _ _ _ _)) := ⟨fun w' hb => rAttrFault_any (.agg #[.slice p0 A.path.length cp0, .int .i64 A.pref, .int .i64 A.med, .int .i64 A.org, .slice q0 A.tags.length cq0]) A w' (ha0.below hb).attr (by omega) (by omega) ca da (by show _ = _; rw [← hca.out, ← hda.out])⟩
  obtain ⟨HG1⟩ : Nonempty (Hid ((c1 = 0 → g1 = cq ∧ e1 = -1) ∧ (¬ c1 = 0 → g1 = c1 ∧ e1 = d1) ∧ (g1 = 0 → g2 = ca ∧ e2 = -1) ∧ (¬ g1 = 0 → g2 = g1 ∧ e2 = e1))) := ⟨by
    rw [← hg2.out, ← he2.out, ← hg1.out, ← he1.out]
    exact ⟨fun h => by simp [h], fun h => by simp [h], fun h => by simp [h], fun h => by simp [h]⟩⟩
  obtain ⟨HG⟩ : Nonempty (Hid (g2 = 0 ∧ ∀ w', Below w.heap.size w w' → AttrP w' (.agg #[.slice p0 A.path.length cp0, .int .i64 A.pref, .int .i64 A.med, .int .i64 A.org, .slice q0 A.tags.length cq0]) A w.heap.size)) := ⟨⟨by have := HALL.1; omega, fun w' hb => by
    obtain ⟨p, cp, q, cq, e, j1, j2, j3, j4, n1, n2⟩ := attrP_of ha0 rfl
    exact ⟨p, cp, q, cq, e, j1.below hb, j2.below hb, j3, j4, n1, n2⟩⟩⟩
  have hn' : ((L.length : Int) == 0) = false := by rw [beq_eq_false_iff_ne]; omega
  obtain ⟨HR⟩ : Nonempty (Hid (Rules w p L)) := ⟨h⟩
  obtain ⟨HRR⟩ : Nonempty (Hid (∀ k, k < L.length → chkR (ruleN L k) = 0)) := ⟨fun k hk => rules_right hc k hk⟩
  obtain ⟨HFT⟩ : Nonempty (Hid (∀ r w', Below w.heap.size w w' → Calls _ _ _ _ _)) := ⟨fun r w' hb => rDoesFit_any r ta tn (.agg #[.slice p0 A.path.length cp0, .int .i64 A.pref, .int .i64 A.med, .int .i64 A.org, .slice q0 A.tags.length cq0]) A w' (ha0.below hb).attr (by omega) (by omega)⟩
  obtain ⟨HTG⟩ : Nonempty (Hid (∀ v' A' y w', AttrP w' v' A' w.heap.size → A'.path.length ≤ 1000000 → A'.tags.length ≤ 1000000 → Calls _ _ _ _ _)) := ⟨fun v' A' y w' hp l1 l2 => rTagOf_p v' A' y (fun b => b < w.heap.size ∨ w.heap.size + 3 < b) w' hp l1 l2⟩
  obtain ⟨HLD⟩ : Nonempty (Hid (∀ v' A' y w', AttrP w' v' A' w.heap.size → A'.path.length ≤ 1000000 → A'.tags.length ≤ 1000000 → Calls _ _ _ _ _)) := ⟨fun v' A' y w' hp l1 l2 => rLeadOf_p v' A' x y (fun b => b < w.heap.size ∨ w.heap.size + 3 < b) w' hp l1 l2⟩
  obtain ⟨HLN⟩ : Nonempty (Hid (A.path.length ≤ 1000 ∧ A.tags.length ≤ 1000)) := ⟨⟨h1, h2⟩⟩
  obtain ⟨K, hK⟩ : ∃ k, Hid (fitK L ta tn A = k) := ⟨_, show _ = _ from rfl⟩
  obtain ⟨gB, hgB⟩ : ∃ k, Hid (goB L ta tn A = k) := ⟨_, show _ = _ from rfl⟩
  obtain ⟨HGB⟩ : Nonempty (Hid (gB = (decide (K < L.length) && !(ruleN L K).deny))) := ⟨by rw [← hgB.out, ← hK.out]; rfl⟩
  rw [show fitK L ta tn A = K from hK.out, show goB L ta tn A = gB from hgB.out]
  obtain ⟨bF, hbF⟩ : ∃ k, Hid ((if gB = true then decide (madeC (ruleN L K) x A = 0) else false) = k) := ⟨_, show _ = _ from rfl⟩
  obtain ⟨aF, haF⟩ : ∃ k, Hid ((if gB = true then (if madeC (ruleN L K) x A = 0 then madeA (ruleN L K) x A else noneA) else noneA) = k) := ⟨_, show _ = _ from rfl⟩
  obtain ⟨cF, hcF⟩ : ∃ k : Int, Hid ((if gB = true then ((madeC (ruleN L K) x A : Nat) : Int) else 0) = k) := ⟨_, show _ = _ from rfl⟩
  rw [show (if gB = true then decide (madeC (ruleN L K) x A = 0) else false) = bF from hbF.out, show (if gB = true then (if madeC (ruleN L K) x A = 0 then madeA (ruleN L K) x A else noneA) else noneA) = aF from haF.out, show (if gB = true then ((madeC (ruleN L K) x A : Nat) : Int) else 0) = cF from hcF.out]
  obtain ⟨HEND⟩ : Nonempty (Hid ((gB = false → bF = false ∧ aF = noneA ∧ cF = 0) ∧ (gB = true → bF = decide (madeC (ruleN L K) x A = 0) ∧ aF = (if madeC (ruleN L K) x A = 0 then madeA (ruleN L K) x A else noneA) ∧ cF = ((madeC (ruleN L K) x A : Nat) : Int)))) := ⟨by
    rw [← hbF.out, ← haF.out, ← hcF.out]
    exact ⟨fun h => by simp [h], fun h => by simp [h]⟩⟩
  obtain ⟨HKF⟩ : Nonempty (Hid (firstN (fun k => fitsB (ruleN L k) ta tn A) L.length = K)) := ⟨hK.out⟩
  obtain ⟨HO⟩ : Nonempty (Hid (AO w _ w.heap.size ta tn #[.slice p0 A.path.length cp0, .int .i64 A.pref, .int .i64 A.med, .int .i64 A.org, .slice q0 A.tags.length cq0])) := ⟨ao_start w ta tn _⟩
  obtain ⟨W0, hW0⟩ : ∃ W0, Hid ((((w.alloc (.cells #[.int .i64 ta, .int .i64 tn] 24)).alloc (.cells #[.slice p0 A.path.length cp0, .int .i64 A.pref, .int .i64 A.med, .int .i64 A.org, .slice q0 A.tags.length cq0] 27)).alloc (.cells #[.slice none 0 0, .int .i64 0, .int .i64 0, .int .i64 0, .slice none 0 0] 27)).alloc (.cells #[.int .i64 0, .int .i64 0] 36) = W0) := ⟨_, show _ = _ from rfl⟩
  rw [show (((w.alloc (.cells #[.int .i64 ta, .int .i64 tn] 24)).alloc (.cells #[.slice p0 A.path.length cp0, .int .i64 A.pref, .int .i64 A.med, .int .i64 A.org, .slice q0 A.tags.length cq0] 27)).alloc (.cells #[.slice none 0 0, .int .i64 0, .int .i64 0, .int .i64 0, .slice none 0 0] 27)).alloc (.cells #[.int .i64 0, .int .i64 0] 36) = W0 from hW0.out] at HO
  obtain ⟨B, hB⟩ : ∃ B, Hid (w.heap.size = B) := ⟨_, show _ = _ from rfl⟩
  clear hc1 hd1 hcq hca hda hg1 he1 hg2 he2 h h1 h2 i1 i2 k1 k2 ha0 HALL hc hn hK hgB hbF haF hcF
  go_enter Tryz.func14, Tryz.ntmps14
  go_wp2_with fail
  rw [show (((w.alloc (.cells #[.int .i64 ta, .int .i64 tn] 24)).alloc (.cells #[.slice p0 A.path.length cp0, .int .i64 A.pref, .int .i64 A.med, .int .i64 A.org, .slice q0 A.tags.length cq0] 27)).alloc (.cells #[.slice none 0 0, .int .i64 0, .int .i64 0, .int .i64 0, .slice none 0 0] 27)).alloc (.cells #[.int .i64 0, .int .i64 0] 36) = W0 from hW0.out]
  clear hW0
  rw [show w.heap.size = B from hB.out] at HO HRF HAF HG ⊢
  refine (HRF.out W0 HO.out.2.2.2.2).mono ?_
  rintro e w1 ⟨rfl, hb1⟩
  obtain ⟨HO1⟩ : Nonempty (Hid (AO w w1 B ta tn #[.slice p0 A.path.length cp0, .int .i64 A.pref, .int .i64 A.med, .int .i64 A.org, .slice q0 A.tags.length cq0])) := ⟨HO.out.on hb1⟩
  obtain ⟨FB0, hFB⟩ : ∃ b, Hid (w1.heap.size = b) := ⟨_, show _ = _ from rfl⟩
  obtain ⟨W1, hW1⟩ : ∃ y, Hid (w1.alloc (.cells #[.int .i64 c1, .int .i64 d1] 36) = y) := ⟨_, show _ = _ from rfl⟩
  obtain ⟨HF1⟩ : Nonempty (Hid (AO w W1 B ta tn #[.slice p0 A.path.length cp0, .int .i64 A.pref, .int .i64 A.med, .int .i64 A.org, .slice q0 A.tags.length cq0] ∧ W1.heap[FB0]? = some (.cells #[.int .i64 c1, .int .i64 d1] 36 (0, 0)) ∧ B + 3 < FB0)) := ⟨by
    rw [← show w1.alloc (.cells #[.int .i64 c1, .int .i64 d1] 36) = W1 from hW1.out, ← show w1.heap.size = FB0 from hFB.out]
    exact ⟨HO1.out.on (below_alloc _ _), Go.heap_alloc_new _ _, HO1.out.size⟩⟩
  clear HO hb1 HRF
  go_upto_if 20 with fail
  rw [show w1.alloc (.cells #[.int .i64 c1, .int .i64 d1] 36) = W1 from hW1.out, show w1.heap.size = FB0 from hFB.out]
  clear hW1 hFB HO1
  go_cut [] from 16 (fun w' => ∃ W : World, Hid (AO w W B ta tn #[.slice p0 A.path.length cp0, .int .i64 A.pref, .int .i64 A.med, .int .i64 A.org, .slice q0 A.tags.length cq0] ∧ W.heap[FB0]? = some (.cells #[.int .i64 g1, .int .i64 e1] 36 (0, 0)) ∧ B + 3 < FB0) ∧ W = w')
  case first =>
    have hf := HF1.out.2.1
    have f0 : W1.cell? ⟨FB0, 0, none⟩ = some (.int .i64 c1) := by simp [World.cell?, hf]
    by_cases hz : c1 = 0
    · obtain ⟨rfl, rfl⟩ := HG1.out.1 hz
      subst hz
      obtain ⟨a0, a1⟩ := HF1.out.1.pre
      clear hf
      go_wp2_with fail
      refine (HPE.out _).mono ?_
      rintro e w2 ⟨rfl, hb2⟩
      obtain ⟨HF2⟩ : Nonempty (Hid (AO w w2 B ta tn #[.slice p0 A.path.length cp0, .int .i64 A.pref, .int .i64 A.med, .int .i64 A.org, .slice q0 A.tags.length cq0] ∧ w2.heap[FB0]? = some (.cells #[.int .i64 0, .int .i64 d1] 36 (0, 0)))) := ⟨⟨HF1.out.1.on hb2, by rw [hb2.block _ (Array.getElem?_eq_some_iff.1 HF1.out.2.1).1]; exact HF1.out.2.1⟩⟩
      clear hb2 a0 a1 f0
      go_wp2_with fail
      refine (aBare_any _ _).mono ?_
      rintro e w3 ⟨rfl, hb3⟩
      obtain ⟨HF3⟩ : Nonempty (Hid (AO w w3 B ta tn #[.slice p0 A.path.length cp0, .int .i64 A.pref, .int .i64 A.med, .int .i64 A.org, .slice q0 A.tags.length cq0] ∧ w3.heap[FB0]? = some (.cells #[.int .i64 0, .int .i64 d1] 36 (0, 0)))) := ⟨⟨HF2.out.1.on hb3, by rw [hb3.block _ (Array.getElem?_eq_some_iff.1 HF2.out.2).1]; exact HF2.out.2⟩⟩
      have hf := HF3.out.2
      have f0 : w3.cell? ⟨FB0, 0, none⟩ = some (.int .i64 0) := by simp [World.cell?, hf]
      have f1 : w3.cell? ⟨FB0, 1, none⟩ = some (.int .i64 d1) := by simp [World.cell?, hf]
      have y0 : w3.frozen? ⟨FB0, 0, none⟩ = false := by simp [World.frozen?, hf]
      have y1 : w3.frozen? ⟨FB0, 1, none⟩ = false := by simp [World.frozen?, hf]
      clear hb3 hf HF2
      go_wp2_with fail
      go_meet
      refine ⟨_, ⟨(HF3.out.1.setO HF1.out.2.2 _ _).setO HF1.out.2.2 _ _, ?_, HF1.out.2.2⟩, rfl⟩
      have h1 := heap_setCell_same _ FB0 1 _ _ (.int .i64 (-1)) (heap_setCell_same _ FB0 0 _ _ (.int .i64 g1) HF3.out.2)
      simpa using h1
    · obtain ⟨rfl, rfl⟩ := HG1.out.2.1 hz
      have hz' : (g1 == 0) = false := by rw [beq_eq_false_iff_ne]; exact hz
      clear hf
      go_wp2_with fail
      go_meet
      exact ⟨_, HF1.out, rfl⟩
  case rest =>
    obtain ⟨W2, HF2, hw2⟩ := hcut
    subst hw2
    clear HF1 HPE
    have hf := HF2.out.2.1
    have f0 : W2.cell? ⟨FB0, 0, none⟩ = some (.int .i64 g1) := by simp [World.cell?, hf]
    clear hf
    go_upto_if 26 with fail
    go_cut [] from 16 (fun w' => ∃ W : World, Hid (AO w W B ta tn #[.slice p0 A.path.length cp0, .int .i64 A.pref, .int .i64 A.med, .int .i64 A.org, .slice q0 A.tags.length cq0] ∧ W.heap[FB0]? = some (.cells #[.int .i64 g2, .int .i64 e2] 36 (0, 0)) ∧ B + 3 < FB0) ∧ W = w')
    case first =>
      by_cases hz : g1 = 0
      · obtain ⟨rfl, rfl⟩ := HG1.out.2.2.1 hz
        subst hz
        obtain ⟨a0, a1, a2, a3, a4⟩ := HF2.out.1.arg
        go_wp2_with fail
        refine (HAF.out _ HF2.out.1.2.2.2.2).mono ?_
        rintro e w3 ⟨rfl, hb3⟩
        obtain ⟨HF3⟩ : Nonempty (Hid (AO w w3 B ta tn #[.slice p0 A.path.length cp0, .int .i64 A.pref, .int .i64 A.med, .int .i64 A.org, .slice q0 A.tags.length cq0] ∧ w3.heap[FB0]? = some (.cells #[.int .i64 0, .int .i64 e1] 36 (0, 0)))) := ⟨⟨HF2.out.1.on hb3, by rw [hb3.block _ (Array.getElem?_eq_some_iff.1 HF2.out.2.1).1]; exact HF2.out.2.1⟩⟩
        have hfd := field_code g2 da
        clear hb3 a0 a1 a2 a3 a4 f0
        go_wp2_with fail
        refine (aBare_any _ _).mono ?_
        rintro e w4 ⟨rfl, hb4⟩
        obtain ⟨HF4⟩ : Nonempty (Hid (AO w w4 B ta tn #[.slice p0 A.path.length cp0, .int .i64 A.pref, .int .i64 A.med, .int .i64 A.org, .slice q0 A.tags.length cq0] ∧ w4.heap[FB0]? = some (.cells #[.int .i64 0, .int .i64 e1] 36 (0, 0)))) := ⟨⟨HF3.out.1.on hb4, by rw [hb4.block _ (Array.getElem?_eq_some_iff.1 HF3.out.2).1]; exact HF3.out.2⟩⟩
        have hf := HF4.out.2
        have f0 : w4.cell? ⟨FB0, 0, none⟩ = some (.int .i64 0) := by simp [World.cell?, hf]
        have f1 : w4.cell? ⟨FB0, 1, none⟩ = some (.int .i64 e1) := by simp [World.cell?, hf]
        have y0 : w4.frozen? ⟨FB0, 0, none⟩ = false := by simp [World.frozen?, hf]
        have y1 : w4.frozen? ⟨FB0, 1, none⟩ = false := by simp [World.frozen?, hf]
        clear hb4 hf HF3
        go_wp2_with fail
        go_meet
        refine ⟨_, ⟨(HF4.out.1.setO HF2.out.2.2 _ _).setO HF2.out.2.2 _ _, ?_, HF2.out.2.2⟩, rfl⟩
        have h1 := heap_setCell_same _ FB0 1 _ _ (.int .i64 (-1)) (heap_setCell_same _ FB0 0 _ _ (.int .i64 g2) HF4.out.2)
        simpa using h1
      · obtain ⟨rfl, rfl⟩ := HG1.out.2.2.2 hz
        have hz' : (g2 == 0) = false := by rw [beq_eq_false_iff_ne]; exact hz
        go_wp2_with fail
        go_meet
        exact ⟨_, HF2.out, rfl⟩
    case rest =>
      obtain ⟨W3, HF3, hw3⟩ := hcut
      subst hw3
      clear HF2 HAF f0 HG1
      have hf := HF3.out.2.1
      have f0 : W3.cell? ⟨FB0, 0, none⟩ = some (.int .i64 g2) := by simp [World.cell?, hf]
      have f1 : W3.cell? ⟨FB0, 1, none⟩ = some (.int .i64 e2) := by simp [World.cell?, hf]
      clear hf
      obtain rfl : g2 = 0 := HG.out.1
      go_upto_if 38 with fail
      clear f0 f1
      obtain ⟨HW3⟩ : Nonempty (Hid (AO w W3 B ta tn #[.slice p0 A.path.length cp0, .int .i64 A.pref, .int .i64 A.med, .int .i64 A.org, .slice q0 A.tags.length cq0])) := ⟨HF3.out.1⟩
      clear HF3
      go_wp2_with fail
      go_loopw [12] (fun z wr => ∃ j : Nat, z = .int .i64 j ∧ j ≤ L.length ∧ Hid (j ≤ firstN (fun k => fitsB (ruleN L k) ta tn A) L.length ∧ AO w wr B ta tn #[.slice p0 A.path.length cp0, .int .i64 A.pref, .int .i64 A.med, .int .i64 A.org, .slice q0 A.tags.length cq0])) (fun z _ => L.length - (intOf z).toNat)
      case atStart => exact ⟨0, rfl, Nat.zero_le _, ⟨Nat.zero_le _, HW3.out⟩⟩
      case round =>
        clear HW3
        obtain ⟨j, rfl, hjl, HX⟩ := hrel
        by_cases hlt : j < L.length
        · skip
          have q3 : (j : Int) < L.length := by omega
          obtain ⟨b0, o0, rfl, x0⟩ := HR.out j hlt
          obtain ⟨d0, d1, d2, d3, d4, d5, d6, d7, d8, d9, d10⟩ := (x0.below (by rw [show w.heap.size = B from hB.out]; exact HX.out.2.2.2.2.2)).cells
          obtain ⟨r, hr⟩ : ∃ r, Hid (L[j] = r) := ⟨_, show _ = _ from rfl⟩
          rw [show L[j] = r from hr.out] at d0 d1 d2 d3 d4 d5 d6 d7 d8 d9 d10
          have hrn : ruleN L j = r := by rw [ruleN_at L j hlt, hr.out]
          clear x0
          obtain ⟨HB⟩ : Nonempty (Hid (Below wr.heap.size wr _ ∧ RuleAt _ wr.heap.size 0 r)) := ⟨rule_boxed wr r⟩
          obtain ⟨RB, hRB⟩ : ∃ b, Hid (wr.heap.size = b) := ⟨_, show _ = _ from rfl⟩
          have HFC := HFT.out r
          unfold rlV at HFC
          obtain ⟨a0, a1⟩ := HX.out.2.pre
          obtain ⟨b1, b2, b3, b4, b5⟩ := HX.out.2.arg
          have hz0 : B < wr.heap.size := by have := HX.out.2.size; omega
          have hz1 : B + 1 < wr.heap.size := by have := HX.out.2.size; omega
          cases hft : fitsB r ta tn A with
          | false =>
            obtain ⟨HN⟩ : Nonempty (Hid (j + 1 ≤ firstN (fun k => fitsB (ruleN L k) ta tn A) L.length)) := ⟨firstN_step HX.out.1 hlt (by simp [hrn, hft])⟩
            rw [hft] at HFC
            go_wp2_with fail
            refine (HFC _ (by first | exact (HX.out.2.on HB.out.1).2.2.2.2 | (rw [show w.heap.size = B from hB.out]; exact (HX.out.2.on HB.out.1).2.2.2.2))).mono ?_
            rintro e w1 ⟨rfl, hb1⟩
            obtain ⟨HQ⟩ : Nonempty (Hid (RuleAt w1 wr.heap.size 0 r ∧ AO w w1 B ta tn #[.slice p0 A.path.length cp0, .int .i64 A.pref, .int .i64 A.med, .int .i64 A.org, .slice q0 A.tags.length cq0] ∧ B + 3 < wr.heap.size)) := ⟨⟨HB.out.2.below hb1, (HX.out.2.on HB.out.1).on hb1, HX.out.2.size⟩⟩
            clear hb1 d0 d1 d2 d3 d4 d5 d6 d7 d8 d9 d10 HFC HB a0 a1 b1 b2 b3 b4 b5 hz0 hz1
            clear hft hrn
            go_wp2_with fail
            go_roundw
            case rel => exact ⟨j + 1, by go_num, by omega, ⟨HN.out, HQ.out.2.1⟩⟩
            case measure => simp [intOf]; omega
          | true =>
            have hKj : K = j := HKF.out.symm.trans (firstN_here HX.out.1 (by simp [hrn, hft]))
            rw [hft] at HFC
            go_wp2_with fail
            refine (HFC _ (by first | exact (HX.out.2.on HB.out.1).2.2.2.2 | (rw [show w.heap.size = B from hB.out]; exact (HX.out.2.on HB.out.1).2.2.2.2))).mono ?_
            rintro e w1 ⟨rfl, hb1⟩
            obtain ⟨HQ⟩ : Nonempty (Hid (RuleAt w1 wr.heap.size 0 r ∧ AO w w1 B ta tn #[.slice p0 A.path.length cp0, .int .i64 A.pref, .int .i64 A.med, .int .i64 A.org, .slice q0 A.tags.length cq0] ∧ B + 3 < wr.heap.size)) := ⟨⟨HB.out.2.below hb1, (HX.out.2.on HB.out.1).on hb1, HX.out.2.size⟩⟩
            clear hb1 d0 d1 d2 d3 d4 d5 d6 d7 d8 d9 d10 HFC HB a0 a1 b1 b2 b3 b4 b5 hz0 hz1
            subst hKj
            obtain ⟨c0, c1, c2, c3, c4, c5, c6, c7, c8, c9, c10⟩ := HQ.out.1.cells0
            cases hd : r.deny with
            | true =>
              rw [hd] at c6
              have hgF : gB = false := by rw [HGB.out, hrn, hd]; simp
              obtain ⟨rfl, rfl, rfl⟩ := HEND.out.1 hgF
              clear hft hrn hd hgF HEND HGB HKF c0 c1 c2 c3 c4 c5 c7 c8 c9 c10
              go_wp2_with fail
              refine (aFine_any _).mono ?_
              rintro e w8 ⟨rfl, hb8⟩
              obtain ⟨HE⟩ : Nonempty (Hid (AO w w8 B ta tn _)) := ⟨HQ.out.2.1.on hb8⟩
              clear hb8
              obtain ⟨r0, r1, r2, r3, r4, s0, s1⟩ := HE.out.res
              have y0 := (HE.out.soft 0).2.1
              have y1 := (HE.out.soft 1).2.1
              have y2 := (HE.out.soft 2).2.1
              have y3 := (HE.out.soft 3).2.1
              have y4 := (HE.out.soft 4).2.1
              have z0 := (HE.out.soft 0).2.2
              have z1 := (HE.out.soft 1).2.2
              go_wp2_with fail
              refine bodyPost_ret (v := .tuple #[.agg #[.slice none 0 0, .int .i64 0, .int .i64 0, .int .i64 0, .slice none 0 0], .bool false, .agg #[.int .i64 0, .int .i64 (-1)]]) (by simp [results, Tryz.results14, go_sem, r0, r1, r2, r3, r4, s0, s1]) rfl ⟨⟨_, rfl, attrK_none _⟩, ?_⟩
              rw [show w.heap.size = B from hB.out]
              exact ((setFive (R := B + 1 + 1) HE.out.2.2.2.2 (by omega) _ _ _ _ _).setCell (p := ⟨B + 1 + 1 + 1, 0, none⟩) (by simp; omega) _).setCell (p := ⟨B + 1 + 1 + 1, 1, none⟩) (by simp; omega) _
            | false =>
              rw [hd] at c6
              have hgT : gB = true := by rw [HGB.out, hrn, hd]; simp [hlt]
              obtain ⟨hE1, hE2, hE3⟩ := HEND.out.2 hgT
              rw [hrn] at hE1 hE2 hE3
              have hadd0 : 0 ≤ r.add := rule_add (by have := HRR.out K hlt; rwa [hrn] at this)
              obtain ⟨HM⟩ : Nonempty (Hid (bF = decide (madeC r x A = 0) ∧ aF = (if madeC r x A = 0 then madeA r x A else noneA) ∧ cF = ((madeC r x A : Nat) : Int))) := ⟨⟨hE1, hE2, hE3⟩⟩
              clear hft hrn hgT HEND HGB HKF hE1 hE2 hE3 HRR
              obtain ⟨A1, hA1⟩ : ∃ a, Hid (setA r A = a) := ⟨_, show _ = _ from rfl⟩
              obtain ⟨f1, hf1⟩ : ∃ f, Hid (A1.pref = f) := ⟨_, show _ = _ from rfl⟩
              obtain ⟨n1, hn1⟩ : ∃ f, Hid (A1.med = f) := ⟨_, show _ = _ from rfl⟩
              have HF1 : Hid ((-1 < r.pref → f1 = r.pref) ∧ (¬ -1 < r.pref → f1 = A.pref)) := by
                rw [← hf1.out, ← hA1.out]
                exact ⟨fun h => by show (if -1 < r.pref then _ else _) = _; rw [if_pos h], fun h => by show (if -1 < r.pref then _ else _) = _; rw [if_neg h]⟩
              have HN1 : Hid ((-1 < r.med → n1 = r.med) ∧ (¬ -1 < r.med → n1 = A.med)) := by
                rw [← hn1.out, ← hA1.out]
                exact ⟨fun h => by show (if -1 < r.med then _ else _) = _; rw [if_pos h], fun h => by show (if -1 < r.med then _ else _) = _; rw [if_neg h]⟩
              obtain ⟨HV⟩ : Nonempty (Hid (∀ w', Below B w w' → AttrP w' (.agg #[.slice p0 A.path.length cp0, .int .i64 f1, .int .i64 n1, .int .i64 A.org, .slice q0 A.tags.length cq0]) A1 B)) := ⟨fun w' hb => by
                obtain ⟨p, cp, q, cq, e, j1, j2, j3, j4, m1, m2⟩ := HG.out.2 w' hb
                simp only [Value.agg.injEq, Array.mk.injEq, List.cons.injEq, Value.slice.injEq, and_true, true_and] at e
                obtain ⟨⟨rfl, rfl⟩, rfl, rfl⟩ := e
                have e1 : A1.path = A.path := by rw [← hA1.out]; rfl
                have e2 : A1.tags = A.tags := by rw [← hA1.out]; rfl
                have e3 : A1.org = A.org := by rw [← hA1.out]; rfl
                exact ⟨p0, cp0, q0, cq0, by rw [e1, e2, e3, hf1.out, hn1.out], by rw [e1]; exact j1, by rw [e2]; exact j2, by rw [e1]; exact j3, by rw [e2]; exact j4, by rw [e1]; exact m1, by rw [e2]; exact m2⟩⟩
              have hlA1 : A1.path.length ≤ 1000 ∧ A1.tags.length ≤ 1000 := by rw [← hA1.out]; exact HLN.out
              rw [show w.heap.size = B from hB.out] at HTG HLD
              rw [show wr.heap.size = RB from hRB.out] at HQ c0 c1 c2 c3 c4 c5 c6 c7 c8 c9 c10 ⊢
              go_upto_if 63 with fail
              go_cut [] from 41 to 99 (fun w' => ∃ W : World, Hid (RuleAt W RB 0 r ∧ AO w W B ta tn #[.slice p0 A.path.length cp0, .int .i64 f1, .int .i64 A.med, .int .i64 A.org, .slice q0 A.tags.length cq0] ∧ B + 3 < RB) ∧ W = w')
              case first =>
                by_cases hp : -1 < r.pref
                · have hp' : decide (0 ≤ r.pref) = true := decide_eq_true (by omega)
                  obtain rfl := HF1.out.1 hp
                  have y1 := (HQ.out.2.1.soft 1).1
                  obtain ⟨a0, a1, a2, a3, a4⟩ := HQ.out.2.1.arg
                  go_wp2_with fail
                  go_meet
                  exact ⟨_, ⟨HQ.out.1.other (by have := HQ.out.2.2; omega) _ _, HQ.out.2.1.setA 1 _, HQ.out.2.2⟩, rfl⟩
                · have hp' : decide (0 ≤ r.pref) = false := decide_eq_false (by omega)
                  obtain rfl := HF1.out.2 (by omega)
                  go_wp2_with fail
                  go_meet
                  exact ⟨_, HQ.out, rfl⟩
              case rest =>
                obtain ⟨W4, HQ4, hw4⟩ := hcut
                subst hw4
                clear c0 c1 c2 c3 c4 c5 c6 c7 c8 c9 c10 HQ
                obtain ⟨c0, c1, c2, c3, c4, c5, c6, c7, c8, c9, c10⟩ := HQ4.out.1.cells0
                go_upto_if 69 with fail
                go_cut [] from 41 to 99 (fun w' => ∃ W : World, Hid (RuleAt W RB 0 r ∧ AO w W B ta tn #[.slice p0 A.path.length cp0, .int .i64 f1, .int .i64 n1, .int .i64 A.org, .slice q0 A.tags.length cq0] ∧ B + 3 < RB) ∧ W = w')
                case first =>
                  by_cases hp : -1 < r.med
                  · have hp' : decide (0 ≤ r.med) = true := decide_eq_true (by omega)
                    obtain rfl := HN1.out.1 hp
                    have y1 := (HQ4.out.2.1.soft 2).1
                    obtain ⟨a0, a1, a2, a3, a4⟩ := HQ4.out.2.1.arg
                    go_wp2_with fail
                    go_meet
                    exact ⟨_, ⟨HQ4.out.1.other (by have := HQ4.out.2.2; omega) _ _, HQ4.out.2.1.setA 2 _, HQ4.out.2.2⟩, rfl⟩
                  · have hp' : decide (0 ≤ r.med) = false := decide_eq_false (by omega)
                    obtain rfl := HN1.out.2 (by omega)
                    go_wp2_with fail
                    go_meet
                    exact ⟨_, HQ4.out, rfl⟩
                case rest =>
                  obtain ⟨W5, HQ5, hw5⟩ := hcut
                  subst hw5
                  clear c0 c1 c2 c3 c4 c5 c6 c7 c8 c9 c10 HQ4
                  obtain ⟨c0, c1, c2, c3, c4, c5, c6, c7, c8, c9, c10⟩ := HQ5.out.1.cells0
                  obtain ⟨a0, a1, a2, a3, a4⟩ := HQ5.out.2.1.arg
                  have hP5 := HV.out W5 HQ5.out.2.1.2.2.2.2
                  by_cases hadd : r.add = 0
                  · skip
                    have hadd' : decide (0 < r.add) = false := decide_eq_false (by omega)
                    have hmid : midA r A = A1 := by unfold midA; rw [if_pos hadd, hA1.out]
                    have hmid0 : midC r A = 0 := by unfold midC; rw [if_pos hadd]
                    obtain ⟨HFIN⟩ : Nonempty (Hid ((leadC A1 x r.lead = 0 → bF = true ∧ aF = leadA A1 x r.lead ∧ cF = 0) ∧ (¬ leadC A1 x r.lead = 0 → bF = false ∧ aF = noneA ∧ cF = leadC A1 x r.lead) ∧ (¬ leadC A1 x r.lead = 0 → 0 < leadC A1 x r.lead))) := ⟨by
                      have hs := leadC_sign A1 x r.lead
                      have hmc : madeC r x A = (leadC A1 x r.lead).toNat := by unfold madeC; rw [hmid0, if_neg (by omega), hmid]
                      have hma : madeA r x A = leadA A1 x r.lead := by unfold madeA; rw [hmid]
                      obtain ⟨h1, h2, h3⟩ := HM.out
                      rw [hmc, hma] at h2
                      rw [hmc] at h1 h3
                      refine ⟨fun h => ⟨by rw [h1, h]; rfl, by rw [h2, h]; rfl, by rw [h3, h]; rfl⟩, fun h => ⟨by rw [h1]; exact decide_eq_false (by omega), by rw [h2, if_neg (by omega)], by omega⟩, fun h => by omega⟩⟩
                    obtain ⟨cl, hcl⟩ : ∃ c : Int, Hid (leadC A1 x r.lead = c) := ⟨_, show _ = _ from rfl⟩
                    obtain ⟨AL, hAL⟩ : ∃ c, Hid ((if leadC A1 x r.lead = 0 then leadA A1 x r.lead else noneA) = c) := ⟨_, show _ = _ from rfl⟩
                    rw [show leadC A1 x r.lead = cl from hcl.out] at HFIN
                    replace HFIN : Hid ((cl = 0 → bF = true ∧ aF = AL ∧ cF = 0) ∧ (¬ cl = 0 → bF = false ∧ aF = noneA ∧ cF = cl) ∧ (¬ cl = 0 → 0 < cl)) := ⟨fun h => by rw [← show _ = AL from hAL.out, show leadC A1 x r.lead = cl from hcl.out, if_pos h]; exact HFIN.out.1 h, HFIN.out.2.1, HFIN.out.2.2⟩
                    clear hmid hmid0
                    have HLC := HLD.out (.agg #[.slice p0 A.path.length cp0, .int .i64 f1, .int .i64 n1, .int .i64 A.org, .slice q0 A.tags.length cq0]) A1 r.lead W5 hP5 (by omega) (by omega)
                    rw [show (if leadC A1 x r.lead = 0 then leadA A1 x r.lead else noneA) = AL from hAL.out, show leadC A1 x r.lead = cl from hcl.out] at HLC
                    go_wp2_with fail
                    refine HLC.mono ?_
                    rintro e w6 ⟨⟨v6, rfl, hg6⟩, hb6⟩
                    have hp6 := attrP_h hg6 HQ5.out.2.1.size
                    obtain ⟨p6, cp6, q6, cq6, rfl, j1, j2, j3, j4, m1, m2⟩ := hp6
                    obtain ⟨HQ6⟩ : Nonempty (Hid (RuleAt w6 RB 0 r ∧ AO w w6 B ta tn #[.slice p0 A.path.length cp0, .int .i64 f1, .int .i64 n1, .int .i64 A.org, .slice q0 A.tags.length cq0] ∧ B + 3 < RB ∧ AttrP w6 (.agg #[.slice p6 AL.path.length cp6, .int .i64 AL.pref, .int .i64 AL.med, .int .i64 AL.org, .slice q6 AL.tags.length cq6]) AL B)) := ⟨⟨HQ5.out.1.below hb6, HQ5.out.2.1.on hb6, HQ5.out.2.2, p6, cp6, q6, cq6, rfl, j1, j2, j3, j4, m1, m2⟩⟩
                    clear hb6 hg6 HLC j1 j2 j3 j4 m1 m2 c0 c1 c2 c3 c4 c5 c6 c7 c8 c9 c10 a0 a1 a2 a3 a4
                    obtain ⟨a0, a1, a2, a3, a4⟩ := HQ6.out.2.1.arg
                    have y0 := (HQ6.out.2.1.soft 0).1
                    have y1 := (HQ6.out.2.1.soft 1).1
                    have y2 := (HQ6.out.2.1.soft 2).1
                    have y3 := (HQ6.out.2.1.soft 3).1
                    have y4 := (HQ6.out.2.1.soft 4).1
                    obtain ⟨W7, hW7⟩ : ∃ y, Hid (((((w6.setCell ⟨B + 1, 0, none⟩ (.slice p6 AL.path.length cp6)).setCell ⟨B + 1, 1, none⟩ (.int .i64 AL.pref)).setCell ⟨B + 1, 2, none⟩ (.int .i64 AL.med)).setCell ⟨B + 1, 3, none⟩ (.int .i64 AL.org)).setCell ⟨B + 1, 4, none⟩ (.slice q6 AL.tags.length cq6) = y) := ⟨_, show _ = _ from rfl⟩
                    obtain ⟨HQ7⟩ : Nonempty (Hid (AO w W7 B ta tn #[.slice p6 AL.path.length cp6, .int .i64 AL.pref, .int .i64 AL.med, .int .i64 AL.org, .slice q6 AL.tags.length cq6] ∧ AttrP W7 (.agg #[.slice p6 AL.path.length cp6, .int .i64 AL.pref, .int .i64 AL.med, .int .i64 AL.org, .slice q6 AL.tags.length cq6]) AL B)) := ⟨by
                      rw [← show ((((w6.setCell ⟨B + 1, 0, none⟩ (.slice p6 AL.path.length cp6)).setCell ⟨B + 1, 1, none⟩ (.int .i64 AL.pref)).setCell ⟨B + 1, 2, none⟩ (.int .i64 AL.med)).setCell ⟨B + 1, 3, none⟩ (.int .i64 AL.org)).setCell ⟨B + 1, 4, none⟩ (.slice q6 AL.tags.length cq6) = W7 from hW7.out]
                      exact ⟨HQ6.out.2.1.setA5 _ _ _ _ _, HQ6.out.2.2.2.set5 (R := B + 1) (by omega) (by omega) _ _ _ _ _⟩⟩
                    by_cases hz : cl = 0
                    · skip
                      subst hz
                      go_upto_region 29 with fail
                      rw [show ((((w6.setCell ⟨B + 1, 0, none⟩ (.slice p6 AL.path.length cp6)).setCell ⟨B + 1, 1, none⟩ (.int .i64 AL.pref)).setCell ⟨B + 1, 2, none⟩ (.int .i64 AL.med)).setCell ⟨B + 1, 3, none⟩ (.int .i64 AL.org)).setCell ⟨B + 1, 4, none⟩ (.slice q6 AL.tags.length cq6) = W7 from hW7.out]
                      clear hW7 HQ6 a0 a1 a2 a3 a4 y0 y1 y2 y3 y4
                      refine wp_region_noPanic ?_
                      refine wp_region_held_drew (S := (fun w' => w'.heap[B + 1]? = some (.cells #[.slice p6 AL.path.length cp6, .int .i64 AL.pref, .int .i64 AL.med, .int .i64 AL.org, .slice q6 AL.tags.length cq6] 27 (0, 0)))) (by kernel_rfl) ?_ (fun hHeld => ?_)
                      · exact HQ7.out.1.2.1
                      refine wpAnyH_take (i := 0) (v := ?_) rfl (by kernel_rfl) (by kernel_rfl) (by kernel_rfl) (fun _ _ _ h => h) (Or.inl ⟨by rfl, ?_⟩) (by assumption) ?_
                      rotate_left
                      · intro w' hSw
                        have e0 : w'.cell? ⟨B + 1, 0, none⟩ = some (.slice p6 AL.path.length cp6) := by simp [World.cell?, hSw]
                        have e1 : w'.cell? ⟨B + 1, 1, none⟩ = some (.int .i64 AL.pref) := by simp [World.cell?, hSw]
                        have e2 : w'.cell? ⟨B + 1, 2, none⟩ = some (.int .i64 AL.med) := by simp [World.cell?, hSw]
                        have e3 : w'.cell? ⟨B + 1, 3, none⟩ = some (.int .i64 AL.org) := by simp [World.cell?, hSw]
                        have e4 : w'.cell? ⟨B + 1, 4, none⟩ = some (.slice q6 AL.tags.length cq6) := by simp [World.cell?, hSw]
                        go_simp
                        try (with_reducible rfl)
                      try simp only [Act.put, List.setIfInBounds_toArray, List.set_cons_zero, List.set_cons_succ, List.getElem_toArray, List.getElem_cons_zero, List.getElem_cons_succ]
                      refine wpAnyH_ready (rs := [1]) (by kernel_rfl) (by simp) ?_
                      refine AllReadyH.cons rfl (fun K hK => ?_) AllReadyH.nil
                      go_simp
                      refine (aFine_any _).mono ?_
                      rintro e x1 ⟨rfl, hb⟩
                      obtain ⟨HO1⟩ : Nonempty (Hid (AO w x1 B ta tn #[.slice p6 AL.path.length cp6, .int .i64 AL.pref, .int .i64 AL.med, .int .i64 AL.org, .slice q6 AL.tags.length cq6])) := ⟨(HQ7.out.1.on (Below.refl _ _).drew).on hb⟩
                      obtain ⟨HB1⟩ : Nonempty (Hid (Below W7.heap.size W7 x1)) := ⟨(Below.refl _ _).drew.trans hb⟩
                      clear hb
                      refine hK.out _ _ HO1.out.2.1 (fun hHeld => ?_)
                      clear hK K
                      try simp only [Act.put, List.setIfInBounds_toArray, List.set_cons_zero, List.set_cons_succ, List.getElem_toArray, List.getElem_cons_zero, List.getElem_cons_succ]
                      obtain ⟨r0, r1, r2, r3, r4, s0, s1⟩ := HO1.out.res
                      have y0 := (HO1.out.soft 0).2.1
                      have y1 := (HO1.out.soft 1).2.1
                      have y2 := (HO1.out.soft 2).2.1
                      have y3 := (HO1.out.soft 3).2.1
                      have y4 := (HO1.out.soft 4).2.1
                      have z0 := (HO1.out.soft 0).2.2
                      have z1 := (HO1.out.soft 1).2.2
                      refine wpAnyH_ready (rs := [2]) (by kernel_rfl) (by simp) ?_
                      refine AllReadyH.cons rfl (fun K hK => ?_) AllReadyH.nil
                      go_simp
                      obtain ⟨x2, hx2⟩ : ∃ y, Hid (((((x1.setCell ⟨B + 1 + 1, 0, none⟩ (.slice p6 AL.path.length cp6)).setCell ⟨B + 1 + 1, 1, none⟩ (.int .i64 AL.pref)).setCell ⟨B + 1 + 1, 2, none⟩ (.int .i64 AL.med)).setCell ⟨B + 1 + 1, 3, none⟩ (.int .i64 AL.org)).setCell ⟨B + 1 + 1, 4, none⟩ (.slice q6 AL.tags.length cq6) = y) := ⟨_, show _ = _ from rfl⟩
                      obtain ⟨H2⟩ : Nonempty (Hid (x2.heap[B + 2]? = some (.cells #[.slice p6 AL.path.length cp6, .int .i64 AL.pref, .int .i64 AL.med, .int .i64 AL.org, .slice q6 AL.tags.length cq6] 27 (0, 0)) ∧ Below B w x2 ∧ x2.heap[B + 1]? = x1.heap[B + 1]? ∧ x2.heap[B + 3]? = some (.cells #[.int .i64 0, .int .i64 0] 36 (0, 0)))) := ⟨by
                        rw [← show ((((x1.setCell ⟨B + 1 + 1, 0, none⟩ (.slice p6 AL.path.length cp6)).setCell ⟨B + 1 + 1, 1, none⟩ (.int .i64 AL.pref)).setCell ⟨B + 1 + 1, 2, none⟩ (.int .i64 AL.med)).setCell ⟨B + 1 + 1, 3, none⟩ (.int .i64 AL.org)).setCell ⟨B + 1 + 1, 4, none⟩ (.slice q6 AL.tags.length cq6) = x2 from hx2.out]
                        exact ⟨set5_n (R := B + 1 + 1) HO1.out.2.2.1 _ _ _ _ _, setFive (R := B + 1 + 1) HO1.out.2.2.2.2 (by omega) _ _ _ _ _, five_n x1 (B + 1 + 1) (B + 1) (by omega) _ _ _ _ _, (five_n x1 (B + 1 + 1) (B + 3) (by omega) _ _ _ _ _).trans HO1.out.2.2.2.1⟩⟩
                      obtain ⟨HA2⟩ : Nonempty (Hid (AttrP x2 (.agg #[.slice p6 AL.path.length cp6, .int .i64 AL.pref, .int .i64 AL.med, .int .i64 AL.org, .slice q6 AL.tags.length cq6]) AL B)) := ⟨by
                        rw [← show ((((x1.setCell ⟨B + 1 + 1, 0, none⟩ (.slice p6 AL.path.length cp6)).setCell ⟨B + 1 + 1, 1, none⟩ (.int .i64 AL.pref)).setCell ⟨B + 1 + 1, 2, none⟩ (.int .i64 AL.med)).setCell ⟨B + 1 + 1, 3, none⟩ (.int .i64 AL.org)).setCell ⟨B + 1 + 1, 4, none⟩ (.slice q6 AL.tags.length cq6) = x2 from hx2.out]
                        exact (HQ7.out.2.on HB1.out).set5 (R := B + 1 + 1) (by omega) (by omega) _ _ _ _ _⟩
                      rw [show ((((x1.setCell ⟨B + 1 + 1, 0, none⟩ (.slice p6 AL.path.length cp6)).setCell ⟨B + 1 + 1, 1, none⟩ (.int .i64 AL.pref)).setCell ⟨B + 1 + 1, 2, none⟩ (.int .i64 AL.med)).setCell ⟨B + 1 + 1, 3, none⟩ (.int .i64 AL.org)).setCell ⟨B + 1 + 1, 4, none⟩ (.slice q6 AL.tags.length cq6) = x2 from hx2.out]
                      clear hx2 r0 r1 r2 r3 r4 s0 s1 y0 y1 y2 y3 y4 z0 z1
                      refine hK.out _ _ (H2.out.2.2.1.trans HO1.out.2.1) (fun hHeld => ?_)
                      clear hK K
                      try simp only [Act.put, List.setIfInBounds_toArray, List.set_cons_zero, List.set_cons_succ, List.getElem_toArray, List.getElem_cons_zero, List.getElem_cons_succ]
                      refine wpAnyH_take (i := 3) (v := ?_) rfl (by kernel_rfl) (by kernel_rfl) (by kernel_rfl) (fun _ _ _ h => h) (Or.inl ⟨by rfl, ?_⟩) (by assumption) ?_
                      rotate_left
                      · (intro w hSw; (try dsimp only at hSw); go_simp; try (with_reducible rfl))
                      try simp only [Act.put, List.setIfInBounds_toArray, List.set_cons_zero, List.set_cons_succ, List.getElem_toArray, List.getElem_cons_zero, List.getElem_cons_succ]
                      have hq := H2.out.2.2.2
                      have s0 : x2.cell? ⟨B + 1 + 1 + 1, 0, none⟩ = some (.int .i64 0) := by simp [World.cell?, hq]
                      have s1 : x2.cell? ⟨B + 1 + 1 + 1, 1, none⟩ = some (.int .i64 0) := by simp [World.cell?, hq]
                      have z0 : x2.frozen? ⟨B + 1 + 1 + 1, 0, none⟩ = false := by simp [World.frozen?, hq]
                      have z1 : x2.frozen? ⟨B + 1 + 1 + 1, 1, none⟩ = false := by simp [World.frozen?, hq]
                      clear hq
                      refine wpAnyH_ready (rs := [4]) (by kernel_rfl) (by simp) ?_
                      refine AllReadyH.cons rfl (fun K hK => ?_) AllReadyH.nil
                      go_simp
                      obtain ⟨x9, hx9⟩ : ∃ y, Hid ((x2.setCell ⟨B + 1 + 1 + 1, 0, none⟩ (.int .i64 0)).setCell ⟨B + 1 + 1 + 1, 1, none⟩ (.int .i64 (-1)) = y) := ⟨_, show _ = _ from rfl⟩
                      obtain ⟨H9⟩ : Nonempty (Hid (x9.heap[B + 2]? = some (.cells #[.slice p6 AL.path.length cp6, .int .i64 AL.pref, .int .i64 AL.med, .int .i64 AL.org, .slice q6 AL.tags.length cq6] 27 (0, 0)) ∧ x9.heap[B + 3]? = some (.cells #[.int .i64 0, .int .i64 (-1)] 36 (0, 0)) ∧ Below B w x9 ∧ x9.heap[B + 1]? = x2.heap[B + 1]? ∧ AttrP x9 (.agg #[.slice p6 AL.path.length cp6, .int .i64 AL.pref, .int .i64 AL.med, .int .i64 AL.org, .slice q6 AL.tags.length cq6]) AL B)) := ⟨by
                        rw [← show (x2.setCell ⟨B + 1 + 1 + 1, 0, none⟩ (.int .i64 0)).setCell ⟨B + 1 + 1 + 1, 1, none⟩ (.int .i64 (-1)) = x9 from hx9.out]
                        have h1 := heap_setCell_same _ (B + 1 + 1 + 1) 1 _ _ (.int .i64 (-1)) (heap_setCell_same _ (B + 1 + 1 + 1) 0 _ _ (.int .i64 0) (H2.out.2.2.2))
                        refine ⟨by rw [Below.heap_setCell _ _ _ _ (by simp), Below.heap_setCell _ _ _ _ (by simp)]; exact H2.out.1, by simpa using h1, ((H2.out.2.1).setCell (by simp; omega) _).setCell (by simp; omega) _, by rw [Below.heap_setCell _ _ _ _ (by simp <;> omega), Below.heap_setCell _ _ _ _ (by simp <;> omega)], (HA2.out.set (R := B + 1 + 1 + 1) (by omega) (by omega) _ _).set (R := B + 1 + 1 + 1) (by omega) (by omega) _ _⟩⟩
                      rw [show (x2.setCell ⟨B + 1 + 1 + 1, 0, none⟩ (.int .i64 0)).setCell ⟨B + 1 + 1 + 1, 1, none⟩ (.int .i64 (-1)) = x9 from hx9.out]
                      clear hx9 s0 s1 z0 z1
                      refine hK.out _ _ (H9.out.2.2.2.1.trans (H2.out.2.2.1.trans HO1.out.2.1)) (fun hHeld => ?_)
                      clear hK K
                      try simp only [Act.put, List.setIfInBounds_toArray, List.set_cons_zero, List.set_cons_succ, List.getElem_toArray, List.getElem_cons_zero, List.getElem_cons_succ]
                      refine wpAnyH_done (by kernel_rfl) ?_ _
                      refine NoPanic.normal ?_
                      clear hHeld
                      have hq := H9.out.1
                      have hq' := H9.out.2.1
                      have r0 : x9.cell? ⟨B + 1 + 1, 0, none⟩ = some (.slice p6 AL.path.length cp6) := by simp [World.cell?, hq]
                      have r1 : x9.cell? ⟨B + 1 + 1, 1, none⟩ = some (.int .i64 AL.pref) := by simp [World.cell?, hq]
                      have r2 : x9.cell? ⟨B + 1 + 1, 2, none⟩ = some (.int .i64 AL.med) := by simp [World.cell?, hq]
                      have r3 : x9.cell? ⟨B + 1 + 1, 3, none⟩ = some (.int .i64 AL.org) := by simp [World.cell?, hq]
                      have r4 : x9.cell? ⟨B + 1 + 1, 4, none⟩ = some (.slice q6 AL.tags.length cq6) := by simp [World.cell?, hq]
                      have s0 : x9.cell? ⟨B + 1 + 1 + 1, 0, none⟩ = some (.int .i64 0) := by simp [World.cell?, hq']
                      have s1 : x9.cell? ⟨B + 1 + 1 + 1, 1, none⟩ = some (.int .i64 (-1)) := by simp [World.cell?, hq']
                      clear hq hq'
                      go_wp2_with fail
                      have hfin := HFIN.out.1 (by first | rfl | trivial)
                      obtain ⟨rfl, hfa, rfl⟩ := hfin
                      replace hfa := hfa.symm
                      subst hfa
                      refine bodyPost_ret (v := .tuple #[.agg #[.slice p6 AL.path.length cp6, .int .i64 AL.pref, .int .i64 AL.med, .int .i64 AL.org, .slice q6 AL.tags.length cq6], .bool true, .agg #[.int .i64 0, .int .i64 (-1)]]) (by simp [results, Tryz.results14, go_sem, r0, r1, r2, r3, r4, s0, s1]) rfl ⟨⟨_, rfl, H9.out.2.2.2.2.attrK⟩, ?_⟩
                      rw [show w.heap.size = B from hB.out]
                      exact H9.out.2.2.1
                    · skip
                      have hz' : (cl == 0) = false := by rw [beq_eq_false_iff_ne]; exact hz
                      have hpos : 0 < cl := HFIN.out.2.2 hz
                      have hfin := HFIN.out.2.1 hz
                      obtain ⟨rfl, rfl, rfl⟩ := hfin
                      go_upto_region 28 with fail
                      rw [show ((((w6.setCell ⟨B + 1, 0, none⟩ (.slice p6 AL.path.length cp6)).setCell ⟨B + 1, 1, none⟩ (.int .i64 AL.pref)).setCell ⟨B + 1, 2, none⟩ (.int .i64 AL.med)).setCell ⟨B + 1, 3, none⟩ (.int .i64 AL.org)).setCell ⟨B + 1, 4, none⟩ (.slice q6 AL.tags.length cq6) = W7 from hW7.out]
                      clear hW7 HQ6 a0 a1 a2 a3 a4 y0 y1 y2 y3 y4
                      go_wp2_with fail
                      refine (aBare_any _ _).mono ?_
                      rintro e w8 ⟨rfl, hb8⟩
                      obtain ⟨HE⟩ : Nonempty (Hid (AO w w8 B ta tn _)) := ⟨HQ7.out.1.on hb8⟩
                      clear hb8
                      obtain ⟨r0, r1, r2, r3, r4, s0, s1⟩ := HE.out.res
                      have y0 := (HE.out.soft 0).2.1
                      have y1 := (HE.out.soft 1).2.1
                      have y2 := (HE.out.soft 2).2.1
                      have y3 := (HE.out.soft 3).2.1
                      have y4 := (HE.out.soft 4).2.1
                      have z0 := (HE.out.soft 0).2.2
                      have z1 := (HE.out.soft 1).2.2
                      go_wp2_with fail
                      refine bodyPost_ret (v := .tuple #[.agg #[.slice none 0 0, .int .i64 0, .int .i64 0, .int .i64 0, .slice none 0 0], .bool false, .agg #[.int .i64 cF, .int .i64 (-1)]]) (by simp [results, Tryz.results14, go_sem, r0, r1, r2, r3, r4, s0, s1]) rfl ⟨⟨_, rfl, attrK_none _⟩, ?_⟩
                      rw [show w.heap.size = B from hB.out]
                      exact ((setFive (R := B + 1 + 1) HE.out.2.2.2.2 (by omega) _ _ _ _ _).setCell (p := ⟨B + 1 + 1 + 1, 0, none⟩) (by simp; omega) _).setCell (p := ⟨B + 1 + 1 + 1, 1, none⟩) (by simp; omega) _
                  · skip
                    have hadd' : decide (0 < r.add) = true := decide_eq_true (by omega)
                    obtain ⟨ct, hct⟩ : ∃ c : Int, Hid (tagC A1 r.add = c) := ⟨_, show _ = _ from rfl⟩
                    obtain ⟨AT, hAT⟩ : ∃ c, Hid ((if tagC A1 r.add = 0 then tagA A1 r.add else noneA) = c) := ⟨_, show _ = _ from rfl⟩
                    have HTC := HTG.out (.agg #[.slice p0 A.path.length cp0, .int .i64 f1, .int .i64 n1, .int .i64 A.org, .slice q0 A.tags.length cq0]) A1 r.add W5 hP5 (by omega) (by omega)
                    rw [show (if tagC A1 r.add = 0 then tagA A1 r.add else noneA) = AT from hAT.out, show tagC A1 r.add = ct from hct.out] at HTC
                    go_wp2_with fail
                    refine HTC.mono ?_
                    rintro e w4 ⟨⟨v4, rfl, hg4⟩, hb4⟩
                    have hp4 := attrP_h hg4 HQ5.out.2.1.size
                    obtain ⟨p4, cp4, q4, cq4, rfl, j1, j2, j3, j4, m1, m2⟩ := hp4
                    obtain ⟨HQ4'⟩ : Nonempty (Hid (RuleAt w4 RB 0 r ∧ AO w w4 B ta tn #[.slice p0 A.path.length cp0, .int .i64 f1, .int .i64 n1, .int .i64 A.org, .slice q0 A.tags.length cq0] ∧ B + 3 < RB ∧ AttrP w4 (.agg #[.slice p4 AT.path.length cp4, .int .i64 AT.pref, .int .i64 AT.med, .int .i64 AT.org, .slice q4 AT.tags.length cq4]) AT B)) := ⟨⟨HQ5.out.1.below hb4, HQ5.out.2.1.on hb4, HQ5.out.2.2, p4, cp4, q4, cq4, rfl, j1, j2, j3, j4, m1, m2⟩⟩
                    clear hb4 hg4 HTC j1 j2 j3 j4 m1 m2 c0 c1 c2 c3 c4 c5 c6 c7 c8 c9 c10 a0 a1 a2 a3 a4 hP5 HQ5
                    obtain ⟨a0, a1, a2, a3, a4⟩ := HQ4'.out.2.1.arg
                    have y0 := (HQ4'.out.2.1.soft 0).1
                    have y1 := (HQ4'.out.2.1.soft 1).1
                    have y2 := (HQ4'.out.2.1.soft 2).1
                    have y3 := (HQ4'.out.2.1.soft 3).1
                    have y4 := (HQ4'.out.2.1.soft 4).1
                    obtain ⟨W6, hW6⟩ : ∃ y, Hid (((((w4.setCell ⟨B + 1, 0, none⟩ (.slice p4 AT.path.length cp4)).setCell ⟨B + 1, 1, none⟩ (.int .i64 AT.pref)).setCell ⟨B + 1, 2, none⟩ (.int .i64 AT.med)).setCell ⟨B + 1, 3, none⟩ (.int .i64 AT.org)).setCell ⟨B + 1, 4, none⟩ (.slice q4 AT.tags.length cq4) = y) := ⟨_, show _ = _ from rfl⟩
                    obtain ⟨HQT⟩ : Nonempty (Hid (RuleAt W6 RB 0 r ∧ AO w W6 B ta tn #[.slice p4 AT.path.length cp4, .int .i64 AT.pref, .int .i64 AT.med, .int .i64 AT.org, .slice q4 AT.tags.length cq4] ∧ B + 3 < RB ∧ AttrP W6 (.agg #[.slice p4 AT.path.length cp4, .int .i64 AT.pref, .int .i64 AT.med, .int .i64 AT.org, .slice q4 AT.tags.length cq4]) AT B)) := ⟨by
                      rw [← show ((((w4.setCell ⟨B + 1, 0, none⟩ (.slice p4 AT.path.length cp4)).setCell ⟨B + 1, 1, none⟩ (.int .i64 AT.pref)).setCell ⟨B + 1, 2, none⟩ (.int .i64 AT.med)).setCell ⟨B + 1, 3, none⟩ (.int .i64 AT.org)).setCell ⟨B + 1, 4, none⟩ (.slice q4 AT.tags.length cq4) = W6 from hW6.out]
                      exact ⟨HQ4'.out.1.other5 (R := B + 1) (by have := HQ4'.out.2.2.1; omega) _ _ _ _ _, HQ4'.out.2.1.setA5 _ _ _ _ _, HQ4'.out.2.2.1, HQ4'.out.2.2.2.set5 (R := B + 1) (by omega) (by omega) _ _ _ _ _⟩⟩
                    by_cases htz : ct = 0
                    · skip
                      subst htz
                      go_upto_region 25 with fail
                      rw [show ((((w4.setCell ⟨B + 1, 0, none⟩ (.slice p4 AT.path.length cp4)).setCell ⟨B + 1, 1, none⟩ (.int .i64 AT.pref)).setCell ⟨B + 1, 2, none⟩ (.int .i64 AT.med)).setCell ⟨B + 1, 3, none⟩ (.int .i64 AT.org)).setCell ⟨B + 1, 4, none⟩ (.slice q4 AT.tags.length cq4) = W6 from hW6.out]
                      clear hW6 HQ4' a0 a1 a2 a3 a4 y0 y1 y2 y3 y4
                      have hATe : AT = tagA A1 r.add := by rw [← hAT.out, if_pos hct.out]
                      obtain ⟨c0, c1, c2, c3, c4, c5, c6, c7, c8, c9, c10⟩ := HQT.out.1.cells0
                      obtain ⟨a0, a1, a2, a3, a4⟩ := HQT.out.2.1.arg
                      have hlA2 : AT.path.length ≤ 1000 ∧ AT.tags.length ≤ 1001 := by
                        rw [hATe]
                        exact ⟨hlA1.1, by have := tagIns_le A1.tags r.add; show (tagIns A1.tags r.add).length ≤ 1001; omega⟩
                      have hmid : midA r A = AT := by unfold midA; rw [if_neg hadd, hA1.out, hATe]
                      have hmid0 : midC r A = 0 := by unfold midC; rw [if_neg hadd, hA1.out, hct.out]; rfl
                      obtain ⟨HFIN⟩ : Nonempty (Hid ((leadC AT x r.lead = 0 → bF = true ∧ aF = leadA AT x r.lead ∧ cF = 0) ∧ (¬ leadC AT x r.lead = 0 → bF = false ∧ aF = noneA ∧ cF = leadC AT x r.lead) ∧ (¬ leadC AT x r.lead = 0 → 0 < leadC AT x r.lead))) := ⟨by
                        have hs := leadC_sign AT x r.lead
                        have hmc : madeC r x A = (leadC AT x r.lead).toNat := by unfold madeC; rw [hmid0, if_neg (by omega), hmid]
                        have hma : madeA r x A = leadA AT x r.lead := by unfold madeA; rw [hmid]
                        obtain ⟨h1, h2, h3⟩ := HM.out
                        rw [hmc, hma] at h2
                        rw [hmc] at h1 h3
                        refine ⟨fun h => ⟨by rw [h1, h]; rfl, by rw [h2, h]; rfl, by rw [h3, h]; rfl⟩, fun h => ⟨by rw [h1]; exact decide_eq_false (by omega), by rw [h2, if_neg (by omega)], by omega⟩, fun h => by omega⟩⟩
                      obtain ⟨cl, hcl⟩ : ∃ c : Int, Hid (leadC AT x r.lead = c) := ⟨_, show _ = _ from rfl⟩
                      obtain ⟨AL, hAL⟩ : ∃ c, Hid ((if leadC AT x r.lead = 0 then leadA AT x r.lead else noneA) = c) := ⟨_, show _ = _ from rfl⟩
                      rw [show leadC AT x r.lead = cl from hcl.out] at HFIN
                      replace HFIN : Hid ((cl = 0 → bF = true ∧ aF = AL ∧ cF = 0) ∧ (¬ cl = 0 → bF = false ∧ aF = noneA ∧ cF = cl) ∧ (¬ cl = 0 → 0 < cl)) := ⟨fun h => by rw [← show _ = AL from hAL.out, show leadC AT x r.lead = cl from hcl.out, if_pos h]; exact HFIN.out.1 h, HFIN.out.2.1, HFIN.out.2.2⟩
                      clear hmid hmid0 hATe
                      have HLC := HLD.out (.agg #[.slice p4 AT.path.length cp4, .int .i64 AT.pref, .int .i64 AT.med, .int .i64 AT.org, .slice q4 AT.tags.length cq4]) AT r.lead W6 HQT.out.2.2.2 (by omega) (by omega)
                      rw [show (if leadC AT x r.lead = 0 then leadA AT x r.lead else noneA) = AL from hAL.out, show leadC AT x r.lead = cl from hcl.out] at HLC
                      go_wp2_with fail
                      refine HLC.mono ?_
                      rintro e w6 ⟨⟨v6, rfl, hg6⟩, hb6⟩
                      have hp6 := attrP_h hg6 HQT.out.2.1.size
                      obtain ⟨p6, cp6, q6, cq6, rfl, j1, j2, j3, j4, m1, m2⟩ := hp6
                      obtain ⟨HQ6⟩ : Nonempty (Hid (RuleAt w6 RB 0 r ∧ AO w w6 B ta tn #[.slice p4 AT.path.length cp4, .int .i64 AT.pref, .int .i64 AT.med, .int .i64 AT.org, .slice q4 AT.tags.length cq4] ∧ B + 3 < RB ∧ AttrP w6 (.agg #[.slice p6 AL.path.length cp6, .int .i64 AL.pref, .int .i64 AL.med, .int .i64 AL.org, .slice q6 AL.tags.length cq6]) AL B)) := ⟨⟨HQT.out.1.below hb6, HQT.out.2.1.on hb6, HQT.out.2.2.1, p6, cp6, q6, cq6, rfl, j1, j2, j3, j4, m1, m2⟩⟩
                      clear hb6 hg6 HLC j1 j2 j3 j4 m1 m2 c0 c1 c2 c3 c4 c5 c6 c7 c8 c9 c10 a0 a1 a2 a3 a4
                      obtain ⟨a0, a1, a2, a3, a4⟩ := HQ6.out.2.1.arg
                      have y0 := (HQ6.out.2.1.soft 0).1
                      have y1 := (HQ6.out.2.1.soft 1).1
                      have y2 := (HQ6.out.2.1.soft 2).1
                      have y3 := (HQ6.out.2.1.soft 3).1
                      have y4 := (HQ6.out.2.1.soft 4).1
                      obtain ⟨W7, hW7⟩ : ∃ y, Hid (((((w6.setCell ⟨B + 1, 0, none⟩ (.slice p6 AL.path.length cp6)).setCell ⟨B + 1, 1, none⟩ (.int .i64 AL.pref)).setCell ⟨B + 1, 2, none⟩ (.int .i64 AL.med)).setCell ⟨B + 1, 3, none⟩ (.int .i64 AL.org)).setCell ⟨B + 1, 4, none⟩ (.slice q6 AL.tags.length cq6) = y) := ⟨_, show _ = _ from rfl⟩
                      obtain ⟨HQ7⟩ : Nonempty (Hid (AO w W7 B ta tn #[.slice p6 AL.path.length cp6, .int .i64 AL.pref, .int .i64 AL.med, .int .i64 AL.org, .slice q6 AL.tags.length cq6] ∧ AttrP W7 (.agg #[.slice p6 AL.path.length cp6, .int .i64 AL.pref, .int .i64 AL.med, .int .i64 AL.org, .slice q6 AL.tags.length cq6]) AL B)) := ⟨by
                        rw [← show ((((w6.setCell ⟨B + 1, 0, none⟩ (.slice p6 AL.path.length cp6)).setCell ⟨B + 1, 1, none⟩ (.int .i64 AL.pref)).setCell ⟨B + 1, 2, none⟩ (.int .i64 AL.med)).setCell ⟨B + 1, 3, none⟩ (.int .i64 AL.org)).setCell ⟨B + 1, 4, none⟩ (.slice q6 AL.tags.length cq6) = W7 from hW7.out]
                        exact ⟨HQ6.out.2.1.setA5 _ _ _ _ _, HQ6.out.2.2.2.set5 (R := B + 1) (by omega) (by omega) _ _ _ _ _⟩⟩
                      by_cases hz : cl = 0
                      · skip
                        subst hz
                        go_upto_region 29 with fail
                        rw [show ((((w6.setCell ⟨B + 1, 0, none⟩ (.slice p6 AL.path.length cp6)).setCell ⟨B + 1, 1, none⟩ (.int .i64 AL.pref)).setCell ⟨B + 1, 2, none⟩ (.int .i64 AL.med)).setCell ⟨B + 1, 3, none⟩ (.int .i64 AL.org)).setCell ⟨B + 1, 4, none⟩ (.slice q6 AL.tags.length cq6) = W7 from hW7.out]
                        clear hW7 HQ6 a0 a1 a2 a3 a4 y0 y1 y2 y3 y4
                        refine wp_region_noPanic ?_
                        refine wp_region_held_drew (S := (fun w' => w'.heap[B + 1]? = some (.cells #[.slice p6 AL.path.length cp6, .int .i64 AL.pref, .int .i64 AL.med, .int .i64 AL.org, .slice q6 AL.tags.length cq6] 27 (0, 0)))) (by kernel_rfl) ?_ (fun hHeld => ?_)
                        · exact HQ7.out.1.2.1
                        refine wpAnyH_take (i := 0) (v := ?_) rfl (by kernel_rfl) (by kernel_rfl) (by kernel_rfl) (fun _ _ _ h => h) (Or.inl ⟨by rfl, ?_⟩) (by assumption) ?_
                        rotate_left
                        · intro w' hSw
                          have e0 : w'.cell? ⟨B + 1, 0, none⟩ = some (.slice p6 AL.path.length cp6) := by simp [World.cell?, hSw]
                          have e1 : w'.cell? ⟨B + 1, 1, none⟩ = some (.int .i64 AL.pref) := by simp [World.cell?, hSw]
                          have e2 : w'.cell? ⟨B + 1, 2, none⟩ = some (.int .i64 AL.med) := by simp [World.cell?, hSw]
                          have e3 : w'.cell? ⟨B + 1, 3, none⟩ = some (.int .i64 AL.org) := by simp [World.cell?, hSw]
                          have e4 : w'.cell? ⟨B + 1, 4, none⟩ = some (.slice q6 AL.tags.length cq6) := by simp [World.cell?, hSw]
                          go_simp
                          try (with_reducible rfl)
                        try simp only [Act.put, List.setIfInBounds_toArray, List.set_cons_zero, List.set_cons_succ, List.getElem_toArray, List.getElem_cons_zero, List.getElem_cons_succ]
                        refine wpAnyH_ready (rs := [1]) (by kernel_rfl) (by simp) ?_
                        refine AllReadyH.cons rfl (fun K hK => ?_) AllReadyH.nil
                        go_simp
                        refine (aFine_any _).mono ?_
                        rintro e x1 ⟨rfl, hb⟩
                        obtain ⟨HO1⟩ : Nonempty (Hid (AO w x1 B ta tn #[.slice p6 AL.path.length cp6, .int .i64 AL.pref, .int .i64 AL.med, .int .i64 AL.org, .slice q6 AL.tags.length cq6])) := ⟨(HQ7.out.1.on (Below.refl _ _).drew).on hb⟩
                        obtain ⟨HB1⟩ : Nonempty (Hid (Below W7.heap.size W7 x1)) := ⟨(Below.refl _ _).drew.trans hb⟩
                        clear hb
                        refine hK.out _ _ HO1.out.2.1 (fun hHeld => ?_)
                        clear hK K
                        try simp only [Act.put, List.setIfInBounds_toArray, List.set_cons_zero, List.set_cons_succ, List.getElem_toArray, List.getElem_cons_zero, List.getElem_cons_succ]
                        obtain ⟨r0, r1, r2, r3, r4, s0, s1⟩ := HO1.out.res
                        have y0 := (HO1.out.soft 0).2.1
                        have y1 := (HO1.out.soft 1).2.1
                        have y2 := (HO1.out.soft 2).2.1
                        have y3 := (HO1.out.soft 3).2.1
                        have y4 := (HO1.out.soft 4).2.1
                        have z0 := (HO1.out.soft 0).2.2
                        have z1 := (HO1.out.soft 1).2.2
                        refine wpAnyH_ready (rs := [2]) (by kernel_rfl) (by simp) ?_
                        refine AllReadyH.cons rfl (fun K hK => ?_) AllReadyH.nil
                        go_simp
                        obtain ⟨x2, hx2⟩ : ∃ y, Hid (((((x1.setCell ⟨B + 1 + 1, 0, none⟩ (.slice p6 AL.path.length cp6)).setCell ⟨B + 1 + 1, 1, none⟩ (.int .i64 AL.pref)).setCell ⟨B + 1 + 1, 2, none⟩ (.int .i64 AL.med)).setCell ⟨B + 1 + 1, 3, none⟩ (.int .i64 AL.org)).setCell ⟨B + 1 + 1, 4, none⟩ (.slice q6 AL.tags.length cq6) = y) := ⟨_, show _ = _ from rfl⟩
                        obtain ⟨H2⟩ : Nonempty (Hid (x2.heap[B + 2]? = some (.cells #[.slice p6 AL.path.length cp6, .int .i64 AL.pref, .int .i64 AL.med, .int .i64 AL.org, .slice q6 AL.tags.length cq6] 27 (0, 0)) ∧ Below B w x2 ∧ x2.heap[B + 1]? = x1.heap[B + 1]? ∧ x2.heap[B + 3]? = some (.cells #[.int .i64 0, .int .i64 0] 36 (0, 0)))) := ⟨by
                          rw [← show ((((x1.setCell ⟨B + 1 + 1, 0, none⟩ (.slice p6 AL.path.length cp6)).setCell ⟨B + 1 + 1, 1, none⟩ (.int .i64 AL.pref)).setCell ⟨B + 1 + 1, 2, none⟩ (.int .i64 AL.med)).setCell ⟨B + 1 + 1, 3, none⟩ (.int .i64 AL.org)).setCell ⟨B + 1 + 1, 4, none⟩ (.slice q6 AL.tags.length cq6) = x2 from hx2.out]
                          exact ⟨set5_n (R := B + 1 + 1) HO1.out.2.2.1 _ _ _ _ _, setFive (R := B + 1 + 1) HO1.out.2.2.2.2 (by omega) _ _ _ _ _, five_n x1 (B + 1 + 1) (B + 1) (by omega) _ _ _ _ _, (five_n x1 (B + 1 + 1) (B + 3) (by omega) _ _ _ _ _).trans HO1.out.2.2.2.1⟩⟩
                        obtain ⟨HA2⟩ : Nonempty (Hid (AttrP x2 (.agg #[.slice p6 AL.path.length cp6, .int .i64 AL.pref, .int .i64 AL.med, .int .i64 AL.org, .slice q6 AL.tags.length cq6]) AL B)) := ⟨by
                          rw [← show ((((x1.setCell ⟨B + 1 + 1, 0, none⟩ (.slice p6 AL.path.length cp6)).setCell ⟨B + 1 + 1, 1, none⟩ (.int .i64 AL.pref)).setCell ⟨B + 1 + 1, 2, none⟩ (.int .i64 AL.med)).setCell ⟨B + 1 + 1, 3, none⟩ (.int .i64 AL.org)).setCell ⟨B + 1 + 1, 4, none⟩ (.slice q6 AL.tags.length cq6) = x2 from hx2.out]
                          exact (HQ7.out.2.on HB1.out).set5 (R := B + 1 + 1) (by omega) (by omega) _ _ _ _ _⟩
                        rw [show ((((x1.setCell ⟨B + 1 + 1, 0, none⟩ (.slice p6 AL.path.length cp6)).setCell ⟨B + 1 + 1, 1, none⟩ (.int .i64 AL.pref)).setCell ⟨B + 1 + 1, 2, none⟩ (.int .i64 AL.med)).setCell ⟨B + 1 + 1, 3, none⟩ (.int .i64 AL.org)).setCell ⟨B + 1 + 1, 4, none⟩ (.slice q6 AL.tags.length cq6) = x2 from hx2.out]
                        clear hx2 r0 r1 r2 r3 r4 s0 s1 y0 y1 y2 y3 y4 z0 z1
                        refine hK.out _ _ (H2.out.2.2.1.trans HO1.out.2.1) (fun hHeld => ?_)
                        clear hK K
                        try simp only [Act.put, List.setIfInBounds_toArray, List.set_cons_zero, List.set_cons_succ, List.getElem_toArray, List.getElem_cons_zero, List.getElem_cons_succ]
                        refine wpAnyH_take (i := 3) (v := ?_) rfl (by kernel_rfl) (by kernel_rfl) (by kernel_rfl) (fun _ _ _ h => h) (Or.inl ⟨by rfl, ?_⟩) (by assumption) ?_
                        rotate_left
                        · (intro w hSw; (try dsimp only at hSw); go_simp; try (with_reducible rfl))
                        try simp only [Act.put, List.setIfInBounds_toArray, List.set_cons_zero, List.set_cons_succ, List.getElem_toArray, List.getElem_cons_zero, List.getElem_cons_succ]
                        have hq := H2.out.2.2.2
                        have s0 : x2.cell? ⟨B + 1 + 1 + 1, 0, none⟩ = some (.int .i64 0) := by simp [World.cell?, hq]
                        have s1 : x2.cell? ⟨B + 1 + 1 + 1, 1, none⟩ = some (.int .i64 0) := by simp [World.cell?, hq]
                        have z0 : x2.frozen? ⟨B + 1 + 1 + 1, 0, none⟩ = false := by simp [World.frozen?, hq]
                        have z1 : x2.frozen? ⟨B + 1 + 1 + 1, 1, none⟩ = false := by simp [World.frozen?, hq]
                        clear hq
                        refine wpAnyH_ready (rs := [4]) (by kernel_rfl) (by simp) ?_
                        refine AllReadyH.cons rfl (fun K hK => ?_) AllReadyH.nil
                        go_simp
                        obtain ⟨x9, hx9⟩ : ∃ y, Hid ((x2.setCell ⟨B + 1 + 1 + 1, 0, none⟩ (.int .i64 0)).setCell ⟨B + 1 + 1 + 1, 1, none⟩ (.int .i64 (-1)) = y) := ⟨_, show _ = _ from rfl⟩
                        obtain ⟨H9⟩ : Nonempty (Hid (x9.heap[B + 2]? = some (.cells #[.slice p6 AL.path.length cp6, .int .i64 AL.pref, .int .i64 AL.med, .int .i64 AL.org, .slice q6 AL.tags.length cq6] 27 (0, 0)) ∧ x9.heap[B + 3]? = some (.cells #[.int .i64 0, .int .i64 (-1)] 36 (0, 0)) ∧ Below B w x9 ∧ x9.heap[B + 1]? = x2.heap[B + 1]? ∧ AttrP x9 (.agg #[.slice p6 AL.path.length cp6, .int .i64 AL.pref, .int .i64 AL.med, .int .i64 AL.org, .slice q6 AL.tags.length cq6]) AL B)) := ⟨by
                          rw [← show (x2.setCell ⟨B + 1 + 1 + 1, 0, none⟩ (.int .i64 0)).setCell ⟨B + 1 + 1 + 1, 1, none⟩ (.int .i64 (-1)) = x9 from hx9.out]
                          have h1 := heap_setCell_same _ (B + 1 + 1 + 1) 1 _ _ (.int .i64 (-1)) (heap_setCell_same _ (B + 1 + 1 + 1) 0 _ _ (.int .i64 0) (H2.out.2.2.2))
                          refine ⟨by rw [Below.heap_setCell _ _ _ _ (by simp), Below.heap_setCell _ _ _ _ (by simp)]; exact H2.out.1, by simpa using h1, ((H2.out.2.1).setCell (by simp; omega) _).setCell (by simp; omega) _, by rw [Below.heap_setCell _ _ _ _ (by simp <;> omega), Below.heap_setCell _ _ _ _ (by simp <;> omega)], (HA2.out.set (R := B + 1 + 1 + 1) (by omega) (by omega) _ _).set (R := B + 1 + 1 + 1) (by omega) (by omega) _ _⟩⟩
                        rw [show (x2.setCell ⟨B + 1 + 1 + 1, 0, none⟩ (.int .i64 0)).setCell ⟨B + 1 + 1 + 1, 1, none⟩ (.int .i64 (-1)) = x9 from hx9.out]
                        clear hx9 s0 s1 z0 z1
                        refine hK.out _ _ (H9.out.2.2.2.1.trans (H2.out.2.2.1.trans HO1.out.2.1)) (fun hHeld => ?_)
                        clear hK K
                        try simp only [Act.put, List.setIfInBounds_toArray, List.set_cons_zero, List.set_cons_succ, List.getElem_toArray, List.getElem_cons_zero, List.getElem_cons_succ]
                        refine wpAnyH_done (by kernel_rfl) ?_ _
                        refine NoPanic.normal ?_
                        clear hHeld
                        have hq := H9.out.1
                        have hq' := H9.out.2.1
                        have r0 : x9.cell? ⟨B + 1 + 1, 0, none⟩ = some (.slice p6 AL.path.length cp6) := by simp [World.cell?, hq]
                        have r1 : x9.cell? ⟨B + 1 + 1, 1, none⟩ = some (.int .i64 AL.pref) := by simp [World.cell?, hq]
                        have r2 : x9.cell? ⟨B + 1 + 1, 2, none⟩ = some (.int .i64 AL.med) := by simp [World.cell?, hq]
                        have r3 : x9.cell? ⟨B + 1 + 1, 3, none⟩ = some (.int .i64 AL.org) := by simp [World.cell?, hq]
                        have r4 : x9.cell? ⟨B + 1 + 1, 4, none⟩ = some (.slice q6 AL.tags.length cq6) := by simp [World.cell?, hq]
                        have s0 : x9.cell? ⟨B + 1 + 1 + 1, 0, none⟩ = some (.int .i64 0) := by simp [World.cell?, hq']
                        have s1 : x9.cell? ⟨B + 1 + 1 + 1, 1, none⟩ = some (.int .i64 (-1)) := by simp [World.cell?, hq']
                        clear hq hq'
                        go_wp2_with fail
                        have hfin := HFIN.out.1 (by first | rfl | trivial)
                        obtain ⟨rfl, hfa, rfl⟩ := hfin
                        replace hfa := hfa.symm
                        subst hfa
                        refine bodyPost_ret (v := .tuple #[.agg #[.slice p6 AL.path.length cp6, .int .i64 AL.pref, .int .i64 AL.med, .int .i64 AL.org, .slice q6 AL.tags.length cq6], .bool true, .agg #[.int .i64 0, .int .i64 (-1)]]) (by simp [results, Tryz.results14, go_sem, r0, r1, r2, r3, r4, s0, s1]) rfl ⟨⟨_, rfl, H9.out.2.2.2.2.attrK⟩, ?_⟩
                        rw [show w.heap.size = B from hB.out]
                        exact H9.out.2.2.1
                      · skip
                        have hz' : (cl == 0) = false := by rw [beq_eq_false_iff_ne]; exact hz
                        have hpos : 0 < cl := HFIN.out.2.2 hz
                        have hfin := HFIN.out.2.1 hz
                        obtain ⟨rfl, rfl, rfl⟩ := hfin
                        go_upto_region 28 with fail
                        rw [show ((((w6.setCell ⟨B + 1, 0, none⟩ (.slice p6 AL.path.length cp6)).setCell ⟨B + 1, 1, none⟩ (.int .i64 AL.pref)).setCell ⟨B + 1, 2, none⟩ (.int .i64 AL.med)).setCell ⟨B + 1, 3, none⟩ (.int .i64 AL.org)).setCell ⟨B + 1, 4, none⟩ (.slice q6 AL.tags.length cq6) = W7 from hW7.out]
                        clear hW7 HQ6 a0 a1 a2 a3 a4 y0 y1 y2 y3 y4
                        go_wp2_with fail
                        refine (aBare_any _ _).mono ?_
                        rintro e w8 ⟨rfl, hb8⟩
                        obtain ⟨HE⟩ : Nonempty (Hid (AO w w8 B ta tn _)) := ⟨HQ7.out.1.on hb8⟩
                        clear hb8
                        obtain ⟨r0, r1, r2, r3, r4, s0, s1⟩ := HE.out.res
                        have y0 := (HE.out.soft 0).2.1
                        have y1 := (HE.out.soft 1).2.1
                        have y2 := (HE.out.soft 2).2.1
                        have y3 := (HE.out.soft 3).2.1
                        have y4 := (HE.out.soft 4).2.1
                        have z0 := (HE.out.soft 0).2.2
                        have z1 := (HE.out.soft 1).2.2
                        go_wp2_with fail
                        refine bodyPost_ret (v := .tuple #[.agg #[.slice none 0 0, .int .i64 0, .int .i64 0, .int .i64 0, .slice none 0 0], .bool false, .agg #[.int .i64 cF, .int .i64 (-1)]]) (by simp [results, Tryz.results14, go_sem, r0, r1, r2, r3, r4, s0, s1]) rfl ⟨⟨_, rfl, attrK_none _⟩, ?_⟩
                        rw [show w.heap.size = B from hB.out]
                        exact ((setFive (R := B + 1 + 1) HE.out.2.2.2.2 (by omega) _ _ _ _ _).setCell (p := ⟨B + 1 + 1 + 1, 0, none⟩) (by simp; omega) _).setCell (p := ⟨B + 1 + 1 + 1, 1, none⟩) (by simp; omega) _
                    · skip
                      have htz' : (ct == 0) = false := by rw [beq_eq_false_iff_ne]; exact htz
                      have hts := tagC_sign A1 r.add
                      rw [show tagC A1 r.add = ct from hct.out] at hts
                      have hpos : 0 < ct := by omega
                      have hmc : madeC r x A = ct.toNat := by
                        have e1 : midC r A = ct.toNat := by unfold midC; rw [if_neg hadd, hA1.out, hct.out]
                        unfold madeC
                        rw [e1, if_pos (by omega)]
                      obtain ⟨h1, h2, h3⟩ := HM.out
                      rw [hmc] at h1 h2 h3
                      rw [decide_eq_false (by omega)] at h1
                      rw [if_neg (by omega)] at h2
                      have h3' : cF = ct := by omega
                      clear h3 HM
                      obtain rfl := h3'
                      subst h1 h2
                      go_upto_region 28 with fail
                      rw [show ((((w4.setCell ⟨B + 1, 0, none⟩ (.slice p4 AT.path.length cp4)).setCell ⟨B + 1, 1, none⟩ (.int .i64 AT.pref)).setCell ⟨B + 1, 2, none⟩ (.int .i64 AT.med)).setCell ⟨B + 1, 3, none⟩ (.int .i64 AT.org)).setCell ⟨B + 1, 4, none⟩ (.slice q4 AT.tags.length cq4) = W6 from hW6.out]
                      clear hW6 HQ4' a0 a1 a2 a3 a4 y0 y1 y2 y3 y4
                      go_wp2_with fail
                      refine (aBare_any _ _).mono ?_
                      rintro e w8 ⟨rfl, hb8⟩
                      obtain ⟨HE⟩ : Nonempty (Hid (AO w w8 B ta tn _)) := ⟨HQT.out.2.1.on hb8⟩
                      clear hb8
                      obtain ⟨r0, r1, r2, r3, r4, s0, s1⟩ := HE.out.res
                      have y0 := (HE.out.soft 0).2.1
                      have y1 := (HE.out.soft 1).2.1
                      have y2 := (HE.out.soft 2).2.1
                      have y3 := (HE.out.soft 3).2.1
                      have y4 := (HE.out.soft 4).2.1
                      have z0 := (HE.out.soft 0).2.2
                      have z1 := (HE.out.soft 1).2.2
                      go_wp2_with fail
                      refine bodyPost_ret (v := .tuple #[.agg #[.slice none 0 0, .int .i64 0, .int .i64 0, .int .i64 0, .slice none 0 0], .bool false, .agg #[.int .i64 cF, .int .i64 (-1)]]) (by simp [results, Tryz.results14, go_sem, r0, r1, r2, r3, r4, s0, s1]) rfl ⟨⟨_, rfl, attrK_none _⟩, ?_⟩
                      rw [show w.heap.size = B from hB.out]
                      exact ((setFive (R := B + 1 + 1) HE.out.2.2.2.2 (by omega) _ _ _ _ _).setCell (p := ⟨B + 1 + 1 + 1, 0, none⟩) (by simp; omega) _).setCell (p := ⟨B + 1 + 1 + 1, 1, none⟩) (by simp; omega) _
        · skip
          obtain rfl : j = L.length := by omega
          have hKl : ¬ K < L.length := by have := HKF.out; have h2 := HX.out.1; omega
          have hgF : gB = false := by rw [HGB.out]; simp [hKl]
          obtain ⟨rfl, rfl, rfl⟩ := HEND.out.1 hgF
          clear hKl hgF HEND HGB HKF
          go_wp2_with fail
          refine (aFine_any _).mono ?_
          rintro e w8 ⟨rfl, hb8⟩
          obtain ⟨HE⟩ : Nonempty (Hid (AO w w8 B ta tn _)) := ⟨HX.out.2.on hb8⟩
          clear hb8
          obtain ⟨r0, r1, r2, r3, r4, s0, s1⟩ := HE.out.res
          have y0 := (HE.out.soft 0).2.1
          have y1 := (HE.out.soft 1).2.1
          have y2 := (HE.out.soft 2).2.1
          have y3 := (HE.out.soft 3).2.1
          have y4 := (HE.out.soft 4).2.1
          have z0 := (HE.out.soft 0).2.2
          have z1 := (HE.out.soft 1).2.2
          go_wp2_with fail
          refine bodyPost_ret (v := .tuple #[.agg #[.slice none 0 0, .int .i64 0, .int .i64 0, .int .i64 0, .slice none 0 0], .bool false, .agg #[.int .i64 0, .int .i64 (-1)]]) (by simp [results, Tryz.results14, go_sem, r0, r1, r2, r3, r4, s0, s1]) rfl ⟨⟨_, rfl, attrK_none _⟩, ?_⟩
          rw [show w.heap.size = B from hB.out]
          exact ((setFive (R := B + 1 + 1) HE.out.2.2.2.2 (by omega) _ _ _ _ _).setCell (p := ⟨B + 1 + 1 + 1, 0, none⟩) (by simp; omega) _).setCell (p := ⟨B + 1 + 1 + 1, 1, none⟩) (by simp; omega) _
end Go.Proofs.YtnifhaopjhgmnaaGreatDoor
