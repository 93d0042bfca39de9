/-
  RuleTells: any rules, any route: package rule's answers are the document's.
-/
import Derived.Test.YtnifhaopjhgmnaaGreatDoorGL
import Derived.Deep.Cut
import Derived.Deep.CutRange
namespace Go.Proofs.YtnifhaopjhgmnaaGreatDoor
open Go.RowKit

/-- two boxes: a prefix's, an attribute's. -/
def TB (w wr : World) (B : Nat) (ta tn : Int) (va : Array Value) : Prop :=
  wr.heap[B]? = some (.cells #[.int .i64 ta, .int .i64 tn] 24 (0, 0)) ∧ wr.heap[B + 1]? = some (.cells va 27 (0, 0)) ∧ Below B w wr
theorem TB.size {w wr : World} {B : Nat} {ta tn : Int} {va : Array Value} (h : TB w wr B ta tn va) : B + 1 < wr.heap.size := (Array.getElem?_eq_some_iff.1 h.2.1).1
theorem TB.on {w wr w' : World} {B : Nat} {ta tn : Int} {va : Array Value} (h : TB w wr B ta tn va) (hb : Below wr.heap.size wr w') : TB w w' B ta tn va := by
  have l := h.size
  obtain ⟨a, b, c⟩ := h
  exact ⟨by rw [hb.block _ (by omega)]; exact a, by rw [hb.block _ l]; exact b, c.trans (hb.mono (by omega))⟩
theorem TB.setO {w wr : World} {B O : Nat} {ta tn : Int} {va : Array Value} (h : TB w wr B ta tn va) (hO : B + 1 < O) (k : Nat) (u : Value) : TB w (wr.setCell ⟨O, k, none⟩ u) B ta tn va :=
  ⟨by rw [Below.heap_setCell _ _ _ _ (by simp; omega)]; exact h.1, by rw [Below.heap_setCell _ _ _ _ (by simp; omega)]; exact h.2.1, h.2.2.setCell (by simp; omega) _⟩
theorem tb_start (w : World) (ta tn : Int) (va : Array Value) : TB w ((w.alloc (.cells #[.int .i64 ta, .int .i64 tn] 24)).alloc (.cells va 27)) w.heap.size ta tn va := by
  obtain ⟨w0, hw0⟩ : ∃ w0, w.alloc (.cells #[.int .i64 ta, .int .i64 tn] 24) = w0 := ⟨_, rfl⟩
  have h0 := Go.heap_alloc_new w (.cells #[.int .i64 ta, .int .i64 tn] 24)
  have b0 := below_alloc w (.cells #[.int .i64 ta, .int .i64 tn] 24)
  have hs : w0.heap.size = w.heap.size + 1 := by rw [← hw0]; simp
  rw [hw0] at h0 b0 ⊢
  have h1 := Go.heap_alloc_new w0 (.cells va 27)
  have b1 := below_alloc w0 (.cells va 27)
  rw [hs] at h1
  exact ⟨by rw [b1.block _ (by omega)]; exact h0, h1, b0.trans (b1.mono (by omega))⟩
theorem TB.pre {w wr : World} {B : Nat} {ta tn : Int} {va : Array Value} (h : TB w wr B ta tn va) : wr.cell? ⟨B, 0, none⟩ = some (.int .i64 ta) ∧ wr.cell? ⟨B, 1, none⟩ = some (.int .i64 tn) := by
  constructor <;> simp [World.cell?, h.1]
theorem TB.arg {w wr : World} {B : Nat} {ta tn : Int} {a b c d e : Value} (h : TB w wr B ta tn #[a, b, c, d, e]) : wr.cell? ⟨B + 1, 0, none⟩ = some a ∧ wr.cell? ⟨B + 1, 1, none⟩ = some b ∧ wr.cell? ⟨B + 1, 2, none⟩ = some c ∧ wr.cell? ⟨B + 1, 3, none⟩ = some d ∧ wr.cell? ⟨B + 1, 4, none⟩ = some e := by
  refine ⟨?_, ?_, ?_, ?_, ?_⟩ <;> simp [World.cell?, h.2.1]
theorem isErr_set5 {w : World} {E : Nat → Addr} {u : Value} {c : Nat} {d : Int} (h : IsErr w E u c d) {O : Nat} (hO : w.heap[O]? = some (.cells #[.slice none 0 0, .int .i64 0, .int .i64 0, .int .i64 0, .slice none 0 0] 27 (0, 0))) (x0 x1 x2 x3 x4 : Value) : IsErr (((((w.setCell ⟨O, 0, none⟩ x0).setCell ⟨O, 1, none⟩ x1).setCell ⟨O, 2, none⟩ x2).setCell ⟨O, 3, none⟩ x3).setCell ⟨O, 4, none⟩ x4) E u c d := by
  rcases h with h | ⟨h0, h1, b, e, y, z⟩
  · exact .inl h
  · have hn : b ≠ O := fun hb => by
      subst hb
      have : w.cell? ⟨b, 0, none⟩ = some (.slice none 0 0) := by simp [World.cell?, hO]
      rw [this] at y
      cases y
    have hk : ∀ o vv, w.cell? ⟨b, o, none⟩ = some vv → (((((w.setCell ⟨O, 0, none⟩ x0).setCell ⟨O, 1, none⟩ x1).setCell ⟨O, 2, none⟩ x2).setCell ⟨O, 3, none⟩ x3).setCell ⟨O, 4, none⟩ x4).cell? ⟨b, o, none⟩ = some vv := fun o vv h => by
      rw [World.cell?_setCell_other _ _ _ _ (by intro he; simp at he <;> omega), World.cell?_setCell_other _ _ _ _ (by intro he; simp at he <;> omega), World.cell?_setCell_other _ _ _ _ (by intro he; simp at he <;> omega), World.cell?_setCell_other _ _ _ _ (by intro he; simp at he <;> omega), World.cell?_setCell_other _ _ _ _ (by intro he; simp at he <;> omega)]
      exact h
    exact .inr ⟨h0, h1, b, e, hk _ _ y, hk _ _ z⟩
theorem appA_len (L : List Rl) (x ta tn : Int) (A : At) (h1 : A.path.length ≤ 20) (h2 : A.tags.length ≤ 15) : (appA L x ta tn A).path.length ≤ 1000 ∧ (appA L x ta tn A).tags.length ≤ 1000 := by
  have hn : noneA.path.length ≤ 1000 ∧ noneA.tags.length ≤ 1000 := ⟨by decide, by decide⟩
  unfold appA
  split
  · exact hn
  · split
    · exact ⟨by omega, by omega⟩
    · split
      · split
        · rename_i hm
          have hml := midA_len (ruleN L (fitK L ta tn A)) A
          have hl : leadC (midA (ruleN L (fitK L ta tn A)) A) x (ruleN L (fitK L ta tn A)).lead = 0 := by
            have := leadC_sign (midA (ruleN L (fitK L ta tn A)) A) x (ruleN L (fitK L ta tn A)).lead
            unfold madeC at hm
            split at hm <;> omega
          refine ⟨?_, ?_⟩
          · show (List.replicate (ruleN L (fitK L ta tn A)).lead.toNat x ++ (midA (ruleN L (fitK L ta tn A)) A).path).length ≤ 1000
            rw [List.length_append, List.length_replicate, hml.1]
            have : (ruleN L (fitK L ta tn A)).lead ≤ 12 := by
              unfold leadC at hl
              split at hl
              · omega
              · split at hl
                · omega
                · omega
            omega
          · show (midA (ruleN L (fitK L ta tn A)) A).tags.length ≤ 1000
            omega
        · exact hn
      · exact hn

set_option linter.unusedSimpArgs false in
set_option linter.unusedVariables false in
set_option maxRecDepth 100000 in
set_option maxHeartbeats 8000000 in
theorem ruleTells_any (p : Option Addr) (L : List Rl) (cp : Nat) (x ta tn : Int) (v : Value) (A : At) (E : Nat → Addr) (m : Int) (w : World) (hE : RuleEnv w E m) (hEL : ErrsLaid w E) (h : Rules w p L) (hk : KindR p L.length cp) (ha : AttrK w v A) :
    Calls Tryz.prog 3 #[.slice p L.length cp, .int .i64 x, .agg #[.int .i64 ta, .int .i64 tn], v] w fun r w' => r = .returned (.bool true) ∧ Below w.heap.size w w' := by
  have ha0 := ha
  obtain ⟨p0, cp0, q0, cq0, rfl, i1, i2, k1, k2⟩ := ha
  obtain ⟨HRU⟩ : Nonempty (Hid (∀ w', Below w.heap.size w w' → Calls _ _ _ _ _)) := ⟨fun w' hb => ruled_any E m w' (hE.below hb)⟩
  obtain ⟨HLG⟩ : Nonempty (Hid (∀ w', Below w.heap.size w w' → Calls _ _ _ _ _)) := ⟨fun w' hb => rLongAttr_any (.agg #[.slice p0 A.path.length cp0, .int .i64 A.pref, .int .i64 A.med, .int .i64 A.org, .slice q0 A.tags.length cq0]) A w' (ha0.below hb).attr⟩
  obtain ⟨HT⟩ : Nonempty (Hid (TB w _ w.heap.size ta tn #[.slice p0 A.path.length cp0, .int .i64 A.pref, .int .i64 A.med, .int .i64 A.org, .slice q0 A.tags.length cq0])) := ⟨tb_start w ta tn _⟩
  obtain ⟨W0, hW0⟩ : ∃ W0, Hid ((w.alloc (.cells #[.int .i64 ta, .int .i64 tn] 24)).alloc (.cells #[.slice p0 A.path.length cp0, .int .i64 A.pref, .int .i64 A.med, .int .i64 A.org, .slice q0 A.tags.length cq0] 27) = W0) := ⟨_, show _ = _ from rfl⟩
  rw [show (w.alloc (.cells #[.int .i64 ta, .int .i64 tn] 24)).alloc (.cells #[.slice p0 A.path.length cp0, .int .i64 A.pref, .int .i64 A.med, .int .i64 A.org, .slice q0 A.tags.length cq0] 27) = W0 from hW0.out] at HT
  obtain ⟨B, hB⟩ : ∃ B, Hid (w.heap.size = B) := ⟨_, show _ = _ from rfl⟩
  by_cases hlen : 15 < L.length
  · have hlen' : decide (15 < (L.length : Int)) = true := decide_eq_true (by omega)
    clear hE hEL h hk ha0 i1 i2 k1 k2 HLG hlen
    go_enter Tryz.func3, Tryz.ntmps3
    go_wp2_with fail
    rw [show (w.alloc (.cells #[.int .i64 ta, .int .i64 tn] 24)).alloc (.cells #[.slice p0 A.path.length cp0, .int .i64 A.pref, .int .i64 A.med, .int .i64 A.org, .slice q0 A.tags.length cq0] 27) = W0 from hW0.out]
    refine (HRU.out W0 HT.out.2.2).mono ?_
    rintro e w1 ⟨rfl, hb1⟩
    obtain ⟨HT1⟩ : Nonempty (Hid (TB w w1 w.heap.size ta tn #[.slice p0 A.path.length cp0, .int .i64 A.pref, .int .i64 A.med, .int .i64 A.org, .slice q0 A.tags.length cq0])) := ⟨HT.out.on hb1⟩
    clear hb1
    go_wp2_with fail
    go_ret
    exact ⟨rfl, HT1.out.2.2⟩
  · have hlen' : decide (15 < (L.length : Int)) = false := decide_eq_false (by omega)
    cases hlg : longA A with
    | true =>
      simp only [hlg] at HLG
      clear hE hEL h hk ha0 i1 i2 k1 k2 hlen hlg
      go_enter Tryz.func3, Tryz.ntmps3
      go_wp2_with fail
      rw [show (w.alloc (.cells #[.int .i64 ta, .int .i64 tn] 24)).alloc (.cells #[.slice p0 A.path.length cp0, .int .i64 A.pref, .int .i64 A.med, .int .i64 A.org, .slice q0 A.tags.length cq0] 27) = W0 from hW0.out]
      refine (HRU.out W0 HT.out.2.2).mono ?_
      rintro e w1 ⟨rfl, hb1⟩
      obtain ⟨HT1⟩ : Nonempty (Hid (TB w w1 w.heap.size ta tn #[.slice p0 A.path.length cp0, .int .i64 A.pref, .int .i64 A.med, .int .i64 A.org, .slice q0 A.tags.length cq0])) := ⟨HT.out.on hb1⟩
      obtain ⟨a0, a1, a2, a3, a4⟩ := HT1.out.arg
      clear hb1 HT
      go_wp2_with fail
      refine (HLG.out w1 HT1.out.2.2).mono ?_
      rintro e w2 ⟨rfl, hb2⟩
      obtain ⟨HT2⟩ : Nonempty (Hid (TB w w2 w.heap.size ta tn #[.slice p0 A.path.length cp0, .int .i64 A.pref, .int .i64 A.med, .int .i64 A.org, .slice q0 A.tags.length cq0])) := ⟨HT1.out.on hb2⟩
      clear hb2 HT1 a0 a1 a2 a3 a4
      go_wp2_with fail
      go_ret
      exact ⟨rfl, HT2.out.2.2⟩
    | false =>
      have hla : A.path.length ≤ 20 ∧ A.tags.length ≤ 15 := by
        simp only [longA, Bool.or_eq_false_iff, decide_eq_false_iff_not] at hlg
        omega
      simp only [hlg] at HLG
      obtain ⟨HOR⟩ : Nonempty (Hid (∀ w', Below w.heap.size w w' → Calls _ _ _ _ _)) := ⟨fun w' hb => ownRules_any L p cp w' (h.below hb) hk (by omega)⟩
      obtain ⟨HRF⟩ : Nonempty (Hid (∀ w', Below w.heap.size w w' → Calls _ _ _ _ _)) := ⟨fun w' hb => rRulesFault_any p L cp w' (h.below hb) (by omega) ((rulesC L).1 : Nat) (rulesC L).2 ⟨rfl, rfl⟩⟩
      obtain ⟨HCK⟩ : Nonempty (Hid (∀ p3 cp3 w', Below w.heap.size w w' → Rules w' p3 L → Calls _ _ _ _ _)) := ⟨fun p3 cp3 w' hb hr => rCheck_any p3 L cp3 E m w' (hE.below hb) hr (by omega)⟩
      obtain ⟨HFC⟩ : Nonempty (Hid (∀ u w', Below w.heap.size w w' → IsErr w' E u (rulesC L).1 (rulesC L).2 → Calls _ _ _ _ _)) := ⟨fun u w' hb he => faulted2_err he (rulesC_le L) (hEL.below hb)⟩
      obtain ⟨HDF⟩ : Nonempty (Hid (∀ r w', Below w.heap.size w w' → Calls _ _ _ _ _)) := ⟨fun r w' hb => rDoesFit_any r ta tn (.agg #[.slice p0 A.path.length cp0, .int .i64 A.pref, .int .i64 A.med, .int .i64 A.org, .slice q0 A.tags.length cq0]) A w' (ha0.below hb).attr (by omega) (by omega)⟩
      obtain ⟨HOA⟩ : Nonempty (Hid (∀ w', Below w.heap.size w w' → Calls _ _ _ _ _)) := ⟨fun w' hb => ownAttr_any (.agg #[.slice p0 A.path.length cp0, .int .i64 A.pref, .int .i64 A.med, .int .i64 A.org, .slice q0 A.tags.length cq0]) A w' (ha0.below hb) (by omega) (by omega)⟩
      obtain ⟨HFT⟩ : Nonempty (Hid (∀ r v' w', Below w.heap.size w w' → IsAttr w' v' A → Calls _ _ _ _ _)) := ⟨fun r v' w' hb hv => fits_any r ta tn v' A E m w' (hE.below hb) hv (by omega) (by omega)⟩
      obtain ⟨HAP⟩ : Nonempty (Hid (∀ p3 cp3 v' w', Below w.heap.size w w' → Rules w' p3 L → AttrK w' v' A → Calls _ _ _ _ _)) := ⟨fun p3 cp3 v' w' hb hr hv => apply_any p3 L cp3 x ta tn v' A E m w' (hE.below hb) hr hv (by omega) (by omega) (by omega)⟩
      obtain ⟨HRA⟩ : Nonempty (Hid (∀ w', Below w.heap.size w w' → Calls _ _ _ _ _)) := ⟨fun w' hb => rApply_any p L cp x ta tn (.agg #[.slice p0 A.path.length cp0, .int .i64 A.pref, .int .i64 A.med, .int .i64 A.org, .slice q0 A.tags.length cq0]) A w' (h.below hb) (ha0.below hb) (by omega) (by omega) (by omega)⟩
      have hal := appA_len L x ta tn A hla.1 hla.2
      have hcl := appC_le L x ta tn A
      obtain ⟨AM, hAM⟩ : ∃ a, Hid (appA L x ta tn A = a) := ⟨_, show _ = _ from rfl⟩
      obtain ⟨bM, hbM⟩ : ∃ a, Hid (appB L x ta tn A = a) := ⟨_, show _ = _ from rfl⟩
      obtain ⟨cM, hcM⟩ : ∃ a, Hid ((appC L x ta tn A).1 = a) := ⟨_, show _ = _ from rfl⟩
      obtain ⟨dM, hdM⟩ : ∃ a, Hid ((appC L x ta tn A).2 = a) := ⟨_, show _ = _ from rfl⟩
      rw [show appA L x ta tn A = AM from hAM.out] at hal
      rw [show (appC L x ta tn A).1 = cM from hcM.out] at hcl
      simp only [show appA L x ta tn A = AM from hAM.out, show appB L x ta tn A = bM from hbM.out, show (appC L x ta tn A).1 = cM from hcM.out, show (appC L x ta tn A).2 = dM from hdM.out] at HAP HRA
      obtain ⟨HFM⟩ : Nonempty (Hid (∀ u w', Below w.heap.size w w' → IsErr w' E u cM dM → Calls _ _ _ _ _)) := ⟨fun u w' hb he => faulted2_err he hcl (hEL.below hb)⟩
      obtain ⟨HSM⟩ : Nonempty (Hid (∀ u u' w', IsAttr w' u AM → IsAttr w' u' AM → Calls Tryz.prog 15 #[u, u'] w' fun r w'' => r = .returned (.bool true) ∧ Below w'.heap.size w' w'')) := ⟨fun u u' w' h1 h2 => by
        have := rSameAttr_any u u' AM AM w' h1 h2 (by omega) (by omega) (by omega) (by omega)
        simpa using this⟩
      obtain ⟨c0, hc0⟩ : ∃ a, Hid ((rulesC L).1 = a) := ⟨_, show _ = _ from rfl⟩
      obtain ⟨d0, hd0⟩ : ∃ a, Hid ((rulesC L).2 = a) := ⟨_, show _ = _ from rfl⟩
      simp only [show (rulesC L).1 = c0 from hc0.out, show (rulesC L).2 = d0 from hd0.out] at HRF HCK HFC
      obtain ⟨HR⟩ : Nonempty (Hid (Rules w p L)) := ⟨h⟩
      have hL1 : L.length ≤ 1000000 := by omega
      clear hE hEL h hk ha0 i1 i2 k1 k2 hlen hlg hla hal hcl hAM hbM hcM hdM hc0 hd0
      go_enter Tryz.func3, Tryz.ntmps3
      go_wp2_with fail
      rw [show (w.alloc (.cells #[.int .i64 ta, .int .i64 tn] 24)).alloc (.cells #[.slice p0 A.path.length cp0, .int .i64 A.pref, .int .i64 A.med, .int .i64 A.org, .slice q0 A.tags.length cq0] 27) = W0 from hW0.out]
      refine (HRU.out W0 HT.out.2.2).mono ?_
      rintro e w1 ⟨rfl, hb1⟩
      obtain ⟨HT1⟩ : Nonempty (Hid (TB w w1 w.heap.size ta tn #[.slice p0 A.path.length cp0, .int .i64 A.pref, .int .i64 A.med, .int .i64 A.org, .slice q0 A.tags.length cq0])) := ⟨HT.out.on hb1⟩
      obtain ⟨a0, a1, a2, a3, a4⟩ := HT1.out.arg
      clear hb1 HT hW0 HRU
      go_wp2_with fail
      refine (HLG.out w1 HT1.out.2.2).mono ?_
      rintro e w2 ⟨rfl, hb2⟩
      obtain ⟨HT2⟩ : Nonempty (Hid (TB w w2 w.heap.size ta tn #[.slice p0 A.path.length cp0, .int .i64 A.pref, .int .i64 A.med, .int .i64 A.org, .slice q0 A.tags.length cq0])) := ⟨HT1.out.on hb2⟩
      clear hb2 HT1 a0 a1 a2 a3 a4 HLG
      go_wp2_with fail
      refine (HOR.out w2 HT2.out.2.2).mono ?_
      rintro e w3 ⟨⟨v3, rfl, ho3⟩, hb3⟩
      obtain ⟨p3, cp3, rfl, -, -, hr3, hn3⟩ := own_rules ho3
      obtain ⟨HT3⟩ : Nonempty (Hid (TB w w3 w.heap.size ta tn #[.slice p0 A.path.length cp0, .int .i64 A.pref, .int .i64 A.med, .int .i64 A.org, .slice q0 A.tags.length cq0] ∧ Rules w3 p3 L)) := ⟨⟨HT2.out.on hb3, hr3⟩⟩
      clear hb3 HT2 HOR ho3 hr3 hn3
      go_wp2_with fail
      refine (HCK.out p3 cp3 w3 HT3.out.1.2.2 HT3.out.2).mono ?_
      rintro e w4 ⟨⟨u4, rfl, hu4⟩, hb4⟩
      obtain ⟨HT4⟩ : Nonempty (Hid (TB w w4 w.heap.size ta tn #[.slice p0 A.path.length cp0, .int .i64 A.pref, .int .i64 A.med, .int .i64 A.org, .slice q0 A.tags.length cq0] ∧ Rules w4 p3 L ∧ IsErr w4 E u4 c0 d0)) := ⟨⟨HT3.out.1.on hb4, HT3.out.2.below hb4, hu4⟩⟩
      clear hb4 HT3 HCK hu4
      go_wp2_with fail
      refine (HRF.out w4 HT4.out.1.2.2).mono ?_
      rintro e w5 ⟨rfl, hb5⟩
      obtain ⟨HT5⟩ : Nonempty (Hid (TB w w5 w.heap.size ta tn #[.slice p0 A.path.length cp0, .int .i64 A.pref, .int .i64 A.med, .int .i64 A.org, .slice q0 A.tags.length cq0] ∧ Rules w5 p3 L ∧ IsErr w5 E u4 c0 d0)) := ⟨⟨HT4.out.1.on hb5, HT4.out.2.1.below hb5, HT4.out.2.2.below hb5⟩⟩
      clear hb5 HT4 HRF
      go_wp2_with fail
      refine (HFC.out u4 w5 HT5.out.1.2.2 HT5.out.2.2).mono ?_
      rintro e w6 ⟨rfl, hb6⟩
      obtain ⟨HT6⟩ : Nonempty (Hid (TB w w6 w.heap.size ta tn #[.slice p0 A.path.length cp0, .int .i64 A.pref, .int .i64 A.med, .int .i64 A.org, .slice q0 A.tags.length cq0] ∧ Rules w6 p3 L)) := ⟨⟨HT5.out.1.on hb6, HT5.out.2.1.below hb6⟩⟩
      clear hb6 HT5 HFC
      go_wp2_with fail
      rw [show w.heap.size = B from hB.out] at HT6 HDF HOA HFT HAP HRA HFM ⊢
      go_loopw [11] (fun z wr => ∃ j : Nat, z = .int .i64 j ∧ j ≤ L.length ∧ Hid (TB w wr B ta tn #[.slice p0 A.path.length cp0, .int .i64 A.pref, .int .i64 A.med, .int .i64 A.org, .slice q0 A.tags.length cq0] ∧ Rules wr p3 L)) (fun z _ => L.length - (intOf z).toNat)
      case atStart => exact ⟨0, rfl, Nat.zero_le _, HT6.out⟩
      case round =>
        clear HT6
        obtain ⟨j, rfl, hjl, HX⟩ := hrel
        by_cases hlt : j < L.length
        · have q3 : (j : Int) < L.length := by omega
          obtain ⟨b0, o0, rfl, x0⟩ := HR.out j hlt
          obtain ⟨b3, o3, rfl, x3⟩ := HX.out.2 j hlt
          obtain ⟨r, hr⟩ : ∃ r, Hid (L[j] = r) := ⟨_, show _ = _ from rfl⟩
          rw [show L[j] = r from hr.out] at x0 x3
          obtain ⟨HX0⟩ : Nonempty (Hid (∀ w', Below B w w' → RuleAt w' b0 (o0 + j * 11) r)) := ⟨fun w' hb => x0.below (by rw [show w.heap.size = B from hB.out]; exact hb)⟩
          obtain ⟨HX3⟩ : Nonempty (Hid (∀ w', Below wr.heap.size wr w' → RuleAt w' b3 (o3 + j * 11) r)) := ⟨fun w' hb => x3.below hb⟩
          have HDC := HDF.out r
          have HFC := HFT.out r
          unfold rlV at HDC HFC
          obtain ⟨bf, hbf⟩ : ∃ b, Hid (fitsB r ta tn A = b) := ⟨_, show _ = _ from rfl⟩
          simp only [show fitsB r ta tn A = bf from hbf.out] at HDC HFC
          clear x0 x3 hr hbf
          go_upto_region 10 with fail
          refine wp_region_noPanic ?_
          refine wp_region_held_drew (S := (fun w' => TB w w' B ta tn #[.slice p0 A.path.length cp0, .int .i64 A.pref, .int .i64 A.med, .int .i64 A.org, .slice q0 A.tags.length cq0] ∧ RuleAt w' b0 (o0 + j * 11) r)) (by kernel_rfl) ?_ (fun hHeld => ?_)
          · exact ⟨HX.out.1.on (Below.refl _ _).drew, HX0.out _ (HX.out.1.on (Below.refl _ _).drew).2.2⟩
          refine wpAnyH_take (i := 0) (v := ?_) rfl (by kernel_rfl) (by kernel_rfl) (by kernel_rfl) (fun _ _ _ h => h) (Or.inl ⟨by rfl, ?_⟩) (by assumption) ?_
          rotate_left
          · (intro w hSw; (try dsimp only at hSw); go_simp; try (with_reducible rfl))
          try simp only [Act.put, List.setIfInBounds_toArray, List.set_cons_zero, List.set_cons_succ, List.getElem_toArray, List.getElem_cons_zero, List.getElem_cons_succ]
          refine wpAnyH_take (i := 1) (v := ?_) rfl (by kernel_rfl) (by kernel_rfl) (by kernel_rfl) (fun _ _ _ h => h) (Or.inl ⟨by rfl, ?_⟩) (by assumption) ?_
          rotate_left
          · (intro w hSw; (try dsimp only at hSw); go_simp; try (with_reducible rfl))
          try simp only [Act.put, List.setIfInBounds_toArray, List.set_cons_zero, List.set_cons_succ, List.getElem_toArray, List.getElem_cons_zero, List.getElem_cons_succ]
          refine wpAnyH_take (i := 2) (v := ?_) rfl (by kernel_rfl) (by kernel_rfl) (by kernel_rfl) (fun _ _ _ h => h) (Or.inl ⟨by rfl, ?_⟩) (by assumption) ?_
          rotate_left
          · (intro w hSw; (try dsimp only at hSw); go_simp; try (with_reducible rfl))
          try simp only [Act.put, List.setIfInBounds_toArray, List.set_cons_zero, List.set_cons_succ, List.getElem_toArray, List.getElem_cons_zero, List.getElem_cons_succ]
          refine wpAnyH_take (i := 3) (v := ?_) rfl (by kernel_rfl) (by kernel_rfl) (by kernel_rfl) (fun _ _ _ h => h) (Or.inl ⟨by rfl, ?_⟩) (by assumption) ?_
          rotate_left
          · intro w' hSw
            obtain ⟨f0, f1, f2, f3, f4, f5, f6, f7, f8, f9, f10⟩ := hSw.2.cells
            go_simp
            try (with_reducible rfl)
          try simp only [Act.put, List.setIfInBounds_toArray, List.set_cons_zero, List.set_cons_succ, List.getElem_toArray, List.getElem_cons_zero, List.getElem_cons_succ]
          refine wpAnyH_take (i := 4) (v := ?_) rfl (by kernel_rfl) (by kernel_rfl) (by kernel_rfl) (fun _ _ _ h => h) (Or.inl ⟨by rfl, ?_⟩) (by assumption) ?_
          rotate_left
          · intro w' hSw
            obtain ⟨g0, g1⟩ := hSw.1.pre
            go_simp
            try (with_reducible rfl)
          try simp only [Act.put, List.setIfInBounds_toArray, List.set_cons_zero, List.set_cons_succ, List.getElem_toArray, List.getElem_cons_zero, List.getElem_cons_succ]
          refine wpAnyH_take (i := 5) (v := ?_) rfl (by kernel_rfl) (by kernel_rfl) (by kernel_rfl) (fun _ _ _ h => h) (Or.inl ⟨by rfl, ?_⟩) (by assumption) ?_
          rotate_left
          · intro w' hSw
            obtain ⟨g0, g1, g2, g3, g4⟩ := hSw.1.arg
            go_simp
            try (with_reducible rfl)
          try simp only [Act.put, List.setIfInBounds_toArray, List.set_cons_zero, List.set_cons_succ, List.getElem_toArray, List.getElem_cons_zero, List.getElem_cons_succ]
          refine wpAnyH_ready (rs := [6]) (by kernel_rfl) (by simp) ?_
          refine AllReadyH.cons rfl (fun K hK => ?_) AllReadyH.nil
          go_simp
          refine (HDC wr.drew (HX.out.1.on (Below.refl _ _).drew).2.2).mono ?_
          rintro e x1 ⟨rfl, hb1⟩
          obtain ⟨HQ1⟩ : Nonempty (Hid (TB w x1 B ta tn #[.slice p0 A.path.length cp0, .int .i64 A.pref, .int .i64 A.med, .int .i64 A.org, .slice q0 A.tags.length cq0] ∧ Below wr.heap.size wr x1)) := ⟨⟨(HX.out.1.on (Below.refl _ _).drew).on hb1, (Below.refl _ _).drew.trans hb1⟩⟩
          clear hb1 HDC
          refine hK.out _ _ ⟨HQ1.out.1, HX0.out _ HQ1.out.1.2.2⟩ (fun hHeld => ?_)
          clear hK K
          try simp only [Act.put, List.setIfInBounds_toArray, List.set_cons_zero, List.set_cons_succ, List.getElem_toArray, List.getElem_cons_zero, List.getElem_cons_succ]
          refine wpAnyH_take (i := 7) (v := ?_) rfl (by kernel_rfl) (by kernel_rfl) (by kernel_rfl) (fun _ _ _ h => h) (Or.inl ⟨by rfl, ?_⟩) (by assumption) ?_
          rotate_left
          · (intro w hSw; (try dsimp only at hSw); go_simp; try (with_reducible rfl))
          try simp only [Act.put, List.setIfInBounds_toArray, List.set_cons_zero, List.set_cons_succ, List.getElem_toArray, List.getElem_cons_zero, List.getElem_cons_succ]
          refine wpAnyH_done (by kernel_rfl) ?_ _
          refine NoPanic.normal ?_
          clear hHeld
          go_upto_region 11 with fail
          refine wp_region_noPanic ?_
          refine wp_region_held_drew (S := (fun w' => TB w w' B ta tn #[.slice p0 A.path.length cp0, .int .i64 A.pref, .int .i64 A.med, .int .i64 A.org, .slice q0 A.tags.length cq0] ∧ RuleAt w' b3 (o3 + j * 11) r)) (by kernel_rfl) ?_ (fun hHeld => ?_)
          · exact ⟨HQ1.out.1.on (Below.refl _ _).drew, HX3.out _ HQ1.out.2.drew⟩
          refine wpAnyH_take (i := 0) (v := ?_) rfl (by kernel_rfl) (by kernel_rfl) (by kernel_rfl) (fun _ _ _ h => h) (Or.inl ⟨by rfl, ?_⟩) (by assumption) ?_
          rotate_left
          · (intro w hSw; (try dsimp only at hSw); go_simp; try (with_reducible rfl))
          try simp only [Act.put, List.setIfInBounds_toArray, List.set_cons_zero, List.set_cons_succ, List.getElem_toArray, List.getElem_cons_zero, List.getElem_cons_succ]
          refine wpAnyH_take (i := 1) (v := ?_) rfl (by kernel_rfl) (by kernel_rfl) (by kernel_rfl) (fun _ _ _ h => h) (Or.inl ⟨by rfl, ?_⟩) (by assumption) ?_
          rotate_left
          · (intro w hSw; (try dsimp only at hSw); go_simp; try (with_reducible rfl))
          try simp only [Act.put, List.setIfInBounds_toArray, List.set_cons_zero, List.set_cons_succ, List.getElem_toArray, List.getElem_cons_zero, List.getElem_cons_succ]
          refine wpAnyH_take (i := 2) (v := ?_) rfl (by kernel_rfl) (by kernel_rfl) (by kernel_rfl) (fun _ _ _ h => h) (Or.inl ⟨by rfl, ?_⟩) (by assumption) ?_
          rotate_left
          · (intro w hSw; (try dsimp only at hSw); go_simp; try (with_reducible rfl))
          try simp only [Act.put, List.setIfInBounds_toArray, List.set_cons_zero, List.set_cons_succ, List.getElem_toArray, List.getElem_cons_zero, List.getElem_cons_succ]
          refine wpAnyH_take (i := 3) (v := ?_) rfl (by kernel_rfl) (by kernel_rfl) (by kernel_rfl) (fun _ _ _ h => h) (Or.inl ⟨by rfl, ?_⟩) (by assumption) ?_
          rotate_left
          · intro w' hSw
            obtain ⟨f0, f1, f2, f3, f4, f5, f6, f7, f8, f9, f10⟩ := hSw.2.cells
            go_simp
            try (with_reducible rfl)
          try simp only [Act.put, List.setIfInBounds_toArray, List.set_cons_zero, List.set_cons_succ, List.getElem_toArray, List.getElem_cons_zero, List.getElem_cons_succ]
          refine wpAnyH_take (i := 4) (v := ?_) rfl (by kernel_rfl) (by kernel_rfl) (by kernel_rfl) (fun _ _ _ h => h) (Or.inl ⟨by rfl, ?_⟩) (by assumption) ?_
          rotate_left
          · intro w' hSw
            obtain ⟨g0, g1⟩ := hSw.1.pre
            go_simp
            try (with_reducible rfl)
          try simp only [Act.put, List.setIfInBounds_toArray, List.set_cons_zero, List.set_cons_succ, List.getElem_toArray, List.getElem_cons_zero, List.getElem_cons_succ]
          refine wpAnyH_take (i := 5) (v := ?_) rfl (by kernel_rfl) (by kernel_rfl) (by kernel_rfl) (fun _ _ _ h => h) (Or.inl ⟨by rfl, ?_⟩) (by assumption) ?_
          rotate_left
          · intro w' hSw
            obtain ⟨g0, g1, g2, g3, g4⟩ := hSw.1.arg
            go_simp
            try (with_reducible rfl)
          try simp only [Act.put, List.setIfInBounds_toArray, List.set_cons_zero, List.set_cons_succ, List.getElem_toArray, List.getElem_cons_zero, List.getElem_cons_succ]
          refine wpAnyH_take (i := 8) (v := ?_) rfl (by kernel_rfl) (by kernel_rfl) (by kernel_rfl) (fun _ _ _ h => h) (Or.inl ⟨by rfl, ?_⟩) (by assumption) ?_
          rotate_left
          · (intro w hSw; (try dsimp only at hSw); go_simp; try (with_reducible rfl))
          try simp only [Act.put, List.setIfInBounds_toArray, List.set_cons_zero, List.set_cons_succ, List.getElem_toArray, List.getElem_cons_zero, List.getElem_cons_succ]
          refine wpAnyH_ready (rs := [6]) (by kernel_rfl) (by simp) ?_
          refine AllReadyH.cons rfl (fun K hK => ?_) AllReadyH.nil
          go_simp
          refine (HOA.out x1.drew (HQ1.out.1.on (Below.refl _ _).drew).2.2).mono ?_
          rintro e x2 ⟨⟨v2, rfl, hv2⟩, hb2⟩
          obtain ⟨HQ2⟩ : Nonempty (Hid (TB w x2 B ta tn #[.slice p0 A.path.length cp0, .int .i64 A.pref, .int .i64 A.med, .int .i64 A.org, .slice q0 A.tags.length cq0] ∧ Below wr.heap.size wr x2 ∧ IsAttr x2 v2 A)) := ⟨⟨(HQ1.out.1.on (Below.refl _ _).drew).on hb2, HQ1.out.2.drew.trans (hb2.mono HQ1.out.2.size), hv2.attr⟩⟩
          clear hb2 hv2
          refine hK.out _ _ ⟨HQ2.out.1, HX3.out _ HQ2.out.2.1⟩ (fun hHeld => ?_)
          clear hK K
          try simp only [Act.put, List.setIfInBounds_toArray, List.set_cons_zero, List.set_cons_succ, List.getElem_toArray, List.getElem_cons_zero, List.getElem_cons_succ]
          refine wpAnyH_ready (rs := [7]) (by kernel_rfl) (by simp) ?_
          refine AllReadyH.cons rfl (fun K hK => ?_) AllReadyH.nil
          go_simp
          refine (HFC v2 x2 HQ2.out.1.2.2 HQ2.out.2.2).mono ?_
          rintro e x3 ⟨rfl, hb3⟩
          obtain ⟨HQ3⟩ : Nonempty (Hid (TB w x3 B ta tn #[.slice p0 A.path.length cp0, .int .i64 A.pref, .int .i64 A.med, .int .i64 A.org, .slice q0 A.tags.length cq0] ∧ Below wr.heap.size wr x3)) := ⟨⟨HQ2.out.1.on hb3, HQ2.out.2.1.trans (hb3.mono HQ2.out.2.1.size)⟩⟩
          clear hb3 HFC
          refine hK.out _ _ ⟨HQ3.out.1, HX3.out _ HQ3.out.2⟩ (fun hHeld => ?_)
          clear hK K
          try simp only [Act.put, List.setIfInBounds_toArray, List.set_cons_zero, List.set_cons_succ, List.getElem_toArray, List.getElem_cons_zero, List.getElem_cons_succ]
          refine wpAnyH_take (i := 9) (v := ?_) rfl (by kernel_rfl) (by kernel_rfl) (by kernel_rfl) (fun _ _ _ h => h) (Or.inl ⟨by rfl, ?_⟩) (by assumption) ?_
          rotate_left
          · (intro w hSw; (try dsimp only at hSw); go_simp; try (with_reducible rfl))
          try simp only [Act.put, List.setIfInBounds_toArray, List.set_cons_zero, List.set_cons_succ, List.getElem_toArray, List.getElem_cons_zero, List.getElem_cons_succ]
          refine wpAnyH_done (by kernel_rfl) ?_ _
          refine NoPanic.normal ?_
          clear hHeld
          cases bf with
          | true =>
            go_wp2_with fail
            go_roundw
            case rel => exact ⟨j + 1, by go_num, by omega, ⟨HQ3.out.1, HX.out.2.below HQ3.out.2⟩⟩
            case measure => simp [intOf]; omega
          | false =>
            go_wp2_with fail
            go_roundw
            case rel => exact ⟨j + 1, by go_num, by omega, ⟨HQ3.out.1, HX.out.2.below HQ3.out.2⟩⟩
            case measure => simp [intOf]; omega
        · obtain rfl : j = L.length := by omega
          obtain ⟨HX1⟩ : Nonempty (Hid (TB w wr B ta tn #[.slice p0 A.path.length cp0, .int .i64 A.pref, .int .i64 A.med, .int .i64 A.org, .slice q0 A.tags.length cq0] ∧ Rules wr p3 L)) := ⟨HX.out⟩
          clear HX HDF HFT
          go_upto_region 13 with fail
          obtain ⟨x0, hx0⟩ : ∃ y, Hid (wr = y) := ⟨_, show _ = _ from rfl⟩
          obtain ⟨HT0⟩ : Nonempty (Hid (TB w x0.drew B ta tn #[.slice p0 A.path.length cp0, .int .i64 A.pref, .int .i64 A.med, .int .i64 A.org, .slice q0 A.tags.length cq0] ∧ Rules x0.drew p3 L)) := ⟨by rw [← show wr = x0 from hx0.out]; exact ⟨HX1.out.1.on (Below.refl _ _).drew, HX1.out.2.below (Below.refl _ _).drew⟩⟩
          rw [show wr = x0 from hx0.out]
          clear hx0 HX1
          go_cut [13, 14, 15] from 65 (fun s13 s14 s15 w' => ∃ (O : Nat) (p5 : Option Addr) (cp5 : Nat) (q5 : Option Addr) (cq5 : Nat) (u5 : Value) (W : World), s13 = .pointer (some ⟨O, 0, none⟩) ∧ s14 = .bool bM ∧ s15 = u5 ∧ Hid (TB w W B ta tn #[.slice p0 A.path.length cp0, .int .i64 A.pref, .int .i64 A.med, .int .i64 A.org, .slice q0 A.tags.length cq0] ∧ W.heap[O]? = some (.cells #[.slice p5 AM.path.length cp5, .int .i64 AM.pref, .int .i64 AM.med, .int .i64 AM.org, .slice q5 AM.tags.length cq5] 27 (0, 0)) ∧ AttrK W (.agg #[.slice p5 AM.path.length cp5, .int .i64 AM.pref, .int .i64 AM.med, .int .i64 AM.org, .slice q5 AM.tags.length cq5]) AM ∧ IsErr W E u5 cM dM) ∧ W = w')
          case first J0 K0 hJ0 hK0 =>
            refine wp_region_noPanic ?_
            refine wp_region_held_drew (S := (fun w' => TB w w' B ta tn #[.slice p0 A.path.length cp0, .int .i64 A.pref, .int .i64 A.med, .int .i64 A.org, .slice q0 A.tags.length cq0])) (by kernel_rfl) ?_ (fun hHeld => ?_)
            · exact HT0.out.1
            refine wpAnyH_take (i := 0) (v := ?_) rfl (by kernel_rfl) (by kernel_rfl) (by kernel_rfl) (fun _ _ _ h => h) (Or.inl ⟨by rfl, ?_⟩) (by assumption) ?_
            rotate_left
            · (intro w hSw; (try dsimp only at hSw); go_simp; try (with_reducible rfl))
            try simp only [Act.put, List.setIfInBounds_toArray, List.set_cons_zero, List.set_cons_succ, List.getElem_toArray, List.getElem_cons_zero, List.getElem_cons_succ]
            refine wpAnyH_take (i := 1) (v := ?_) rfl (by kernel_rfl) (by kernel_rfl) (by kernel_rfl) (fun _ _ _ h => h) (Or.inl ⟨by rfl, ?_⟩) (by assumption) ?_
            rotate_left
            · (intro w hSw; (try dsimp only at hSw); go_simp; try (with_reducible rfl))
            try simp only [Act.put, List.setIfInBounds_toArray, List.set_cons_zero, List.set_cons_succ, List.getElem_toArray, List.getElem_cons_zero, List.getElem_cons_succ]
            refine wpAnyH_take (i := 2) (v := ?_) rfl (by kernel_rfl) (by kernel_rfl) (by kernel_rfl) (fun _ _ _ h => h) (Or.inl ⟨by rfl, ?_⟩) (by assumption) ?_
            rotate_left
            · intro w' hSw
              obtain ⟨g0, g1⟩ := hSw.pre
              go_simp
              try (with_reducible rfl)
            try simp only [Act.put, List.setIfInBounds_toArray, List.set_cons_zero, List.set_cons_succ, List.getElem_toArray, List.getElem_cons_zero, List.getElem_cons_succ]
            refine wpAnyH_take (i := 3) (v := ?_) rfl (by kernel_rfl) (by kernel_rfl) (by kernel_rfl) (fun _ _ _ h => h) (Or.inl ⟨by rfl, ?_⟩) (by assumption) ?_
            rotate_left
            · intro w' hSw
              obtain ⟨g0, g1, g2, g3, g4⟩ := hSw.arg
              go_simp
              try (with_reducible rfl)
            try simp only [Act.put, List.setIfInBounds_toArray, List.set_cons_zero, List.set_cons_succ, List.getElem_toArray, List.getElem_cons_zero, List.getElem_cons_succ]
            refine wpAnyH_ready (rs := [4, 10]) (by kernel_rfl) (by simp) ?_
            refine (AllReadyH.cons rfl (fun K hK => ?_) (AllReadyH.cons rfl (fun K hK => ?_) AllReadyH.nil))
            · skip
              go_simp
              refine (HOA.out x0.drew HT0.out.1.2.2).mono ?_
              rintro e x1 ⟨⟨v4, rfl, hv4⟩, hb⟩
              obtain ⟨HT1⟩ : Nonempty (Hid (TB w x1 B ta tn #[.slice p0 A.path.length cp0, .int .i64 A.pref, .int .i64 A.med, .int .i64 A.org, .slice q0 A.tags.length cq0] ∧ Rules x1 p3 L)) := ⟨⟨HT0.out.1.on hb, HT0.out.2.below hb⟩⟩
              obtain ⟨HV1⟩ : Nonempty (Hid (AttrK x1 v4 A)) := ⟨hv4⟩
              clear hb hv4
              refine hK.out _ _ HT1.out.1 (fun hHeld => ?_)
              clear hK K
              try simp only [Act.put, List.setIfInBounds_toArray, List.set_cons_zero, List.set_cons_succ, List.getElem_toArray, List.getElem_cons_zero, List.getElem_cons_succ]
              refine wpAnyH_ready (rs := [5, 10]) (by kernel_rfl) (by simp) ?_
              refine (AllReadyH.cons rfl (fun K hK => ?_) (AllReadyH.cons rfl (fun K hK => ?_) AllReadyH.nil))
              · skip
                go_simp
                refine (HAP.out p3 cp3 v4 x1 HT1.out.1.2.2 HT1.out.2 HV1.out).mono ?_
                rintro e x2 ⟨⟨v5, u5, rfl, hg5, he5⟩, hb⟩
                obtain ⟨p5, cp5, q5, cq5, rfl, j1, j2, j3, j4, m1, m2⟩ := hg5
                obtain ⟨HT2⟩ : Nonempty (Hid (TB w x2 B ta tn #[.slice p0 A.path.length cp0, .int .i64 A.pref, .int .i64 A.med, .int .i64 A.org, .slice q0 A.tags.length cq0] ∧ Rules x2 p3 L)) := ⟨⟨HT1.out.1.on hb, HT1.out.2.below hb⟩⟩
                obtain ⟨HG0⟩ : Nonempty (Hid (AttrK x2 (.agg #[.slice p5 AM.path.length cp5, .int .i64 AM.pref, .int .i64 AM.med, .int .i64 AM.org, .slice q5 AM.tags.length cq5]) AM ∧ IsErr x2 E u5 cM dM)) := ⟨⟨⟨p5, cp5, q5, cq5, rfl, j1, j2, j3, j4⟩, he5⟩⟩
                clear hb he5 j1 j2 j3 j4 m1 m2
                refine hK.out _ _ HT2.out.1 (fun hHeld => ?_)
                clear hK K
                try simp only [Act.put, List.setIfInBounds_toArray, List.set_cons_zero, List.set_cons_succ, List.getElem_toArray, List.getElem_cons_zero, List.getElem_cons_succ]
                refine wpAnyH_take (i := 6) (v := ?_) rfl (by kernel_rfl) (by kernel_rfl) (by kernel_rfl) (fun _ _ _ h => h) (Or.inl ⟨by rfl, ?_⟩) (by assumption) ?_
                rotate_left
                · (intro w hSw; (try dsimp only at hSw); go_simp; try (with_reducible rfl))
                try simp only [Act.put, List.setIfInBounds_toArray, List.set_cons_zero, List.set_cons_succ, List.getElem_toArray, List.getElem_cons_zero, List.getElem_cons_succ]
                refine wpAnyH_take (i := 7) (v := ?_) rfl (by kernel_rfl) (by kernel_rfl) (by kernel_rfl) (fun _ _ _ h => h) (Or.inl ⟨by rfl, ?_⟩) (by assumption) ?_
                rotate_left
                · (intro w hSw; (try dsimp only at hSw); go_simp; try (with_reducible rfl))
                try simp only [Act.put, List.setIfInBounds_toArray, List.set_cons_zero, List.set_cons_succ, List.getElem_toArray, List.getElem_cons_zero, List.getElem_cons_succ]
                refine wpAnyH_take (i := 8) (v := ?_) rfl (by kernel_rfl) (by kernel_rfl) (by kernel_rfl) (fun _ _ _ h => h) (Or.inl ⟨by rfl, ?_⟩) (by assumption) ?_
                rotate_left
                · (intro w hSw; (try dsimp only at hSw); go_simp; try (with_reducible rfl))
                try simp only [Act.put, List.setIfInBounds_toArray, List.set_cons_zero, List.set_cons_succ, List.getElem_toArray, List.getElem_cons_zero, List.getElem_cons_succ]
                refine wpAnyH_take (i := 9) (v := ?_) rfl (by kernel_rfl) (by kernel_rfl) (by kernel_rfl) (fun _ _ _ h => h) (Or.inl ⟨by rfl, ?_⟩) (by assumption) ?_
                rotate_left
                · (intro w hSw; (try dsimp only at hSw); go_simp; try (with_reducible rfl))
                try simp only [Act.put, List.setIfInBounds_toArray, List.set_cons_zero, List.set_cons_succ, List.getElem_toArray, List.getElem_cons_zero, List.getElem_cons_succ]
                refine wpAnyH_ready (rs := [10]) (by kernel_rfl) (by simp) ?_
                refine AllReadyH.cons rfl (fun K hK => ?_) AllReadyH.nil
                go_simp
                obtain ⟨O, hO⟩ : ∃ b, Hid (x2.heap.size = b) := ⟨_, show _ = _ from rfl⟩
                obtain ⟨x3, hx3⟩ : ∃ y, Hid (x2.alloc (.cells #[.slice none 0 0, .int .i64 0, .int .i64 0, .int .i64 0, .slice none 0 0] 27) = y) := ⟨_, show _ = _ from rfl⟩
                have hb : Below x2.heap.size x2 x3 := by rw [← show x2.alloc (.cells #[.slice none 0 0, .int .i64 0, .int .i64 0, .int .i64 0, .slice none 0 0] 27) = x3 from hx3.out]; exact below_alloc (x2) _
                obtain ⟨HT3⟩ : Nonempty (Hid (TB w x3 B ta tn #[.slice p0 A.path.length cp0, .int .i64 A.pref, .int .i64 A.med, .int .i64 A.org, .slice q0 A.tags.length cq0] ∧ Rules x3 p3 L)) := ⟨⟨HT2.out.1.on hb, HT2.out.2.below hb⟩⟩
                obtain ⟨HO3⟩ : Nonempty (Hid (x3.heap[O]? = some (.cells #[.slice none 0 0, .int .i64 0, .int .i64 0, .int .i64 0, .slice none 0 0] 27 (0, 0)) ∧ B + 1 < O ∧ O < x3.heap.size)) := ⟨by
                  have hh : x3.heap[O]? = some (.cells #[.slice none 0 0, .int .i64 0, .int .i64 0, .int .i64 0, .slice none 0 0] 27 (0, 0)) := by rw [← show x2.alloc (.cells #[.slice none 0 0, .int .i64 0, .int .i64 0, .int .i64 0, .slice none 0 0] 27) = x3 from hx3.out, ← show x2.heap.size = O from hO.out]; exact Go.heap_alloc_new (x2) _
                  exact ⟨hh, by rw [← show x2.heap.size = O from hO.out]; exact HT2.out.1.size, (Array.getElem?_eq_some_iff.1 hh).1⟩⟩
                obtain ⟨HG⟩ : Nonempty (Hid (AttrK x2 (.agg #[.slice p5 AM.path.length cp5, .int .i64 AM.pref, .int .i64 AM.med, .int .i64 AM.org, .slice q5 AM.tags.length cq5]) AM ∧ Below x2.heap.size x2 x3 ∧ x2.heap.size = O ∧ IsErr x3 E u5 cM dM)) := ⟨⟨HG0.out.1, hb, hO.out, HG0.out.2.below hb⟩⟩
                rw [show x2.alloc (.cells #[.slice none 0 0, .int .i64 0, .int .i64 0, .int .i64 0, .slice none 0 0] 27) = x3 from hx3.out, show x2.heap.size = O from hO.out]
                clear hx3 hO hb
                refine hK.out _ _ HT3.out.1 (fun hHeld => ?_)
                clear hK K
                try simp only [Act.put, List.setIfInBounds_toArray, List.set_cons_zero, List.set_cons_succ, List.getElem_toArray, List.getElem_cons_zero, List.getElem_cons_succ]
                refine wpAnyH_ready (rs := [11]) (by kernel_rfl) (by simp) ?_
                refine AllReadyH.cons rfl (fun K hK => ?_) AllReadyH.nil
                have hh := HO3.out.1
                have e0 : x3.cell? ⟨O, 0, none⟩ = some (.slice none 0 0) := by simp [World.cell?, hh]
                have z0 : x3.frozen? ⟨O, 0, none⟩ = false := by simp [World.frozen?, hh]
                have e1 : x3.cell? ⟨O, 1, none⟩ = some (.int .i64 0) := by simp [World.cell?, hh]
                have z1 : x3.frozen? ⟨O, 1, none⟩ = false := by simp [World.frozen?, hh]
                have e2 : x3.cell? ⟨O, 2, none⟩ = some (.int .i64 0) := by simp [World.cell?, hh]
                have z2 : x3.frozen? ⟨O, 2, none⟩ = false := by simp [World.frozen?, hh]
                have e3 : x3.cell? ⟨O, 3, none⟩ = some (.int .i64 0) := by simp [World.cell?, hh]
                have z3 : x3.frozen? ⟨O, 3, none⟩ = false := by simp [World.frozen?, hh]
                have e4 : x3.cell? ⟨O, 4, none⟩ = some (.slice none 0 0) := by simp [World.cell?, hh]
                have z4 : x3.frozen? ⟨O, 4, none⟩ = false := by simp [World.frozen?, hh]
                clear hh
                go_simp
                obtain ⟨x4, hx4⟩ : ∃ y, Hid (((((x3.setCell ⟨O, 0, none⟩ (.slice p5 AM.path.length cp5)).setCell ⟨O, 1, none⟩ (.int .i64 AM.pref)).setCell ⟨O, 2, none⟩ (.int .i64 AM.med)).setCell ⟨O, 3, none⟩ (.int .i64 AM.org)).setCell ⟨O, 4, none⟩ (.slice q5 AM.tags.length cq5) = y) := ⟨_, show _ = _ from rfl⟩
                rw [show ((((x3.setCell ⟨O, 0, none⟩ (.slice p5 AM.path.length cp5)).setCell ⟨O, 1, none⟩ (.int .i64 AM.pref)).setCell ⟨O, 2, none⟩ (.int .i64 AM.med)).setCell ⟨O, 3, none⟩ (.int .i64 AM.org)).setCell ⟨O, 4, none⟩ (.slice q5 AM.tags.length cq5) = x4 from hx4.out]
                obtain ⟨HZ⟩ : Nonempty (Hid (TB w x4 B ta tn #[.slice p0 A.path.length cp0, .int .i64 A.pref, .int .i64 A.med, .int .i64 A.org, .slice q0 A.tags.length cq0] ∧ x4.heap[O]? = some (.cells #[.slice p5 AM.path.length cp5, .int .i64 AM.pref, .int .i64 AM.med, .int .i64 AM.org, .slice q5 AM.tags.length cq5] 27 (0, 0)) ∧ AttrK x4 (.agg #[.slice p5 AM.path.length cp5, .int .i64 AM.pref, .int .i64 AM.med, .int .i64 AM.org, .slice q5 AM.tags.length cq5]) AM ∧ IsErr x4 E u5 cM dM)) := ⟨by
                  rw [← show ((((x3.setCell ⟨O, 0, none⟩ (.slice p5 AM.path.length cp5)).setCell ⟨O, 1, none⟩ (.int .i64 AM.pref)).setCell ⟨O, 2, none⟩ (.int .i64 AM.med)).setCell ⟨O, 3, none⟩ (.int .i64 AM.org)).setCell ⟨O, 4, none⟩ (.slice q5 AM.tags.length cq5) = x4 from hx4.out]
                  have l := HO3.out.2.1
                  exact ⟨((((HT3.out.1.setO l _ _).setO l _ _).setO l _ _).setO l _ _).setO l _ _, set5_n HO3.out.1 _ _ _ _ _, HG.out.1.below (setFive HG.out.2.1 (by have := HG.out.2.2.1; omega) _ _ _ _ _), isErr_set5 HG.out.2.2.2 HO3.out.1 _ _ _ _ _⟩⟩
                clear hx4 e0 e1 e2 e3 e4 z0 z1 z2 z3 z4
                refine hK.out _ _ HZ.out.1 (fun hHeld => ?_)
                clear hK K
                try simp only [Act.put, List.setIfInBounds_toArray, List.set_cons_zero, List.set_cons_succ, List.getElem_toArray, List.getElem_cons_zero, List.getElem_cons_succ]
                refine wpAnyH_take (i := 12) (v := ?_) rfl (by kernel_rfl) (by kernel_rfl) (by kernel_rfl) (fun _ _ _ h => h) (Or.inl ⟨by rfl, ?_⟩) (by assumption) ?_
                rotate_left
                · (intro w hSw; (try dsimp only at hSw); go_simp; try (with_reducible rfl))
                try simp only [Act.put, List.setIfInBounds_toArray, List.set_cons_zero, List.set_cons_succ, List.getElem_toArray, List.getElem_cons_zero, List.getElem_cons_succ]
                refine wpAnyH_take (i := 13) (v := ?_) rfl (by kernel_rfl) (by kernel_rfl) (by kernel_rfl) (fun _ _ _ h => h) (Or.inl ⟨by rfl, ?_⟩) (by assumption) ?_
                rotate_left
                · (intro w hSw; (try dsimp only at hSw); go_simp; try (with_reducible rfl))
                try simp only [Act.put, List.setIfInBounds_toArray, List.set_cons_zero, List.set_cons_succ, List.getElem_toArray, List.getElem_cons_zero, List.getElem_cons_succ]
                refine wpAnyH_done (by kernel_rfl) ?_ _
                refine NoPanic.normal ?_
                show K0 _ _
                refine hK0 _ _ (Met.intro (hJ0 _ _ ?_))
                (repeat apply Exists.intro)
                exact ⟨⟨O, p5, cp5, q5, cq5, u5, x4, rfl, rfl, rfl, HZ, rfl⟩, rfl⟩
              · skip
                go_simp
                obtain ⟨O, hO⟩ : ∃ b, Hid (x1.heap.size = b) := ⟨_, show _ = _ from rfl⟩
                obtain ⟨x2, hx2⟩ : ∃ y, Hid (x1.alloc (.cells #[.slice none 0 0, .int .i64 0, .int .i64 0, .int .i64 0, .slice none 0 0] 27) = y) := ⟨_, show _ = _ from rfl⟩
                have hb : Below x1.heap.size x1 x2 := by rw [← show x1.alloc (.cells #[.slice none 0 0, .int .i64 0, .int .i64 0, .int .i64 0, .slice none 0 0] 27) = x2 from hx2.out]; exact below_alloc (x1) _
                obtain ⟨HT2⟩ : Nonempty (Hid (TB w x2 B ta tn #[.slice p0 A.path.length cp0, .int .i64 A.pref, .int .i64 A.med, .int .i64 A.org, .slice q0 A.tags.length cq0] ∧ Rules x2 p3 L)) := ⟨⟨HT1.out.1.on hb, HT1.out.2.below hb⟩⟩
                obtain ⟨HO2⟩ : Nonempty (Hid (x2.heap[O]? = some (.cells #[.slice none 0 0, .int .i64 0, .int .i64 0, .int .i64 0, .slice none 0 0] 27 (0, 0)) ∧ B + 1 < O ∧ O < x2.heap.size)) := ⟨by
                  have hh : x2.heap[O]? = some (.cells #[.slice none 0 0, .int .i64 0, .int .i64 0, .int .i64 0, .slice none 0 0] 27 (0, 0)) := by rw [← show x1.alloc (.cells #[.slice none 0 0, .int .i64 0, .int .i64 0, .int .i64 0, .slice none 0 0] 27) = x2 from hx2.out, ← show x1.heap.size = O from hO.out]; exact Go.heap_alloc_new (x1) _
                  exact ⟨hh, by rw [← show x1.heap.size = O from hO.out]; exact HT1.out.1.size, (Array.getElem?_eq_some_iff.1 hh).1⟩⟩
                obtain ⟨HV2⟩ : Nonempty (Hid (AttrK x2 v4 A)) := ⟨HV1.out.below hb⟩
                rw [show x1.alloc (.cells #[.slice none 0 0, .int .i64 0, .int .i64 0, .int .i64 0, .slice none 0 0] 27) = x2 from hx2.out, show x1.heap.size = O from hO.out]
                clear hx2 hO hb
                refine hK.out _ _ HT2.out.1 (fun hHeld => ?_)
                clear hK K
                try simp only [Act.put, List.setIfInBounds_toArray, List.set_cons_zero, List.set_cons_succ, List.getElem_toArray, List.getElem_cons_zero, List.getElem_cons_succ]
                refine wpAnyH_ready (rs := [5]) (by kernel_rfl) (by simp) ?_
                refine AllReadyH.cons rfl (fun K hK => ?_) AllReadyH.nil
                go_simp
                refine (HAP.out p3 cp3 v4 x2 HT2.out.1.2.2 HT2.out.2 HV2.out).mono ?_
                rintro e x3 ⟨⟨v5, u5, rfl, hg5, he5⟩, hb⟩
                obtain ⟨p5, cp5, q5, cq5, rfl, j1, j2, j3, j4, m1, m2⟩ := hg5
                obtain ⟨HT3⟩ : Nonempty (Hid (TB w x3 B ta tn #[.slice p0 A.path.length cp0, .int .i64 A.pref, .int .i64 A.med, .int .i64 A.org, .slice q0 A.tags.length cq0] ∧ Rules x3 p3 L)) := ⟨⟨HT2.out.1.on hb, HT2.out.2.below hb⟩⟩
                obtain ⟨HO3⟩ : Nonempty (Hid (x3.heap[O]? = some (.cells #[.slice none 0 0, .int .i64 0, .int .i64 0, .int .i64 0, .slice none 0 0] 27 (0, 0)) ∧ B + 1 < O ∧ O < x3.heap.size)) := ⟨⟨by rw [hb.block _ HO2.out.2.2]; exact HO2.out.1, HO2.out.2.1, Nat.lt_of_lt_of_le HO2.out.2.2 hb.size⟩⟩
                obtain ⟨HG⟩ : Nonempty (Hid (AttrG x3 (.agg #[.slice p5 AM.path.length cp5, .int .i64 AM.pref, .int .i64 AM.med, .int .i64 AM.org, .slice q5 AM.tags.length cq5]) AM x2.heap.size ∧ O < x2.heap.size ∧ IsErr x3 E u5 cM dM)) := ⟨⟨⟨p5, cp5, q5, cq5, rfl, j1, j2, j3, j4, m1, m2⟩, HO2.out.2.2, he5⟩⟩
                clear hb he5 j1 j2 j3 j4 m1 m2
                refine hK.out _ _ HT3.out.1 (fun hHeld => ?_)
                clear hK K
                try simp only [Act.put, List.setIfInBounds_toArray, List.set_cons_zero, List.set_cons_succ, List.getElem_toArray, List.getElem_cons_zero, List.getElem_cons_succ]
                refine wpAnyH_take (i := 6) (v := ?_) rfl (by kernel_rfl) (by kernel_rfl) (by kernel_rfl) (fun _ _ _ h => h) (Or.inl ⟨by rfl, ?_⟩) (by assumption) ?_
                rotate_left
                · (intro w hSw; (try dsimp only at hSw); go_simp; try (with_reducible rfl))
                try simp only [Act.put, List.setIfInBounds_toArray, List.set_cons_zero, List.set_cons_succ, List.getElem_toArray, List.getElem_cons_zero, List.getElem_cons_succ]
                refine wpAnyH_take (i := 7) (v := ?_) rfl (by kernel_rfl) (by kernel_rfl) (by kernel_rfl) (fun _ _ _ h => h) (Or.inl ⟨by rfl, ?_⟩) (by assumption) ?_
                rotate_left
                · (intro w hSw; (try dsimp only at hSw); go_simp; try (with_reducible rfl))
                try simp only [Act.put, List.setIfInBounds_toArray, List.set_cons_zero, List.set_cons_succ, List.getElem_toArray, List.getElem_cons_zero, List.getElem_cons_succ]
                refine wpAnyH_take (i := 8) (v := ?_) rfl (by kernel_rfl) (by kernel_rfl) (by kernel_rfl) (fun _ _ _ h => h) (Or.inl ⟨by rfl, ?_⟩) (by assumption) ?_
                rotate_left
                · (intro w hSw; (try dsimp only at hSw); go_simp; try (with_reducible rfl))
                try simp only [Act.put, List.setIfInBounds_toArray, List.set_cons_zero, List.set_cons_succ, List.getElem_toArray, List.getElem_cons_zero, List.getElem_cons_succ]
                refine wpAnyH_take (i := 9) (v := ?_) rfl (by kernel_rfl) (by kernel_rfl) (by kernel_rfl) (fun _ _ _ h => h) (Or.inl ⟨by rfl, ?_⟩) (by assumption) ?_
                rotate_left
                · (intro w hSw; (try dsimp only at hSw); go_simp; try (with_reducible rfl))
                try simp only [Act.put, List.setIfInBounds_toArray, List.set_cons_zero, List.set_cons_succ, List.getElem_toArray, List.getElem_cons_zero, List.getElem_cons_succ]
                refine wpAnyH_ready (rs := [11]) (by kernel_rfl) (by simp) ?_
                refine AllReadyH.cons rfl (fun K hK => ?_) AllReadyH.nil
                have hh := HO3.out.1
                have e0 : x3.cell? ⟨O, 0, none⟩ = some (.slice none 0 0) := by simp [World.cell?, hh]
                have z0 : x3.frozen? ⟨O, 0, none⟩ = false := by simp [World.frozen?, hh]
                have e1 : x3.cell? ⟨O, 1, none⟩ = some (.int .i64 0) := by simp [World.cell?, hh]
                have z1 : x3.frozen? ⟨O, 1, none⟩ = false := by simp [World.frozen?, hh]
                have e2 : x3.cell? ⟨O, 2, none⟩ = some (.int .i64 0) := by simp [World.cell?, hh]
                have z2 : x3.frozen? ⟨O, 2, none⟩ = false := by simp [World.frozen?, hh]
                have e3 : x3.cell? ⟨O, 3, none⟩ = some (.int .i64 0) := by simp [World.cell?, hh]
                have z3 : x3.frozen? ⟨O, 3, none⟩ = false := by simp [World.frozen?, hh]
                have e4 : x3.cell? ⟨O, 4, none⟩ = some (.slice none 0 0) := by simp [World.cell?, hh]
                have z4 : x3.frozen? ⟨O, 4, none⟩ = false := by simp [World.frozen?, hh]
                clear hh
                go_simp
                obtain ⟨x4, hx4⟩ : ∃ y, Hid (((((x3.setCell ⟨O, 0, none⟩ (.slice p5 AM.path.length cp5)).setCell ⟨O, 1, none⟩ (.int .i64 AM.pref)).setCell ⟨O, 2, none⟩ (.int .i64 AM.med)).setCell ⟨O, 3, none⟩ (.int .i64 AM.org)).setCell ⟨O, 4, none⟩ (.slice q5 AM.tags.length cq5) = y) := ⟨_, show _ = _ from rfl⟩
                rw [show ((((x3.setCell ⟨O, 0, none⟩ (.slice p5 AM.path.length cp5)).setCell ⟨O, 1, none⟩ (.int .i64 AM.pref)).setCell ⟨O, 2, none⟩ (.int .i64 AM.med)).setCell ⟨O, 3, none⟩ (.int .i64 AM.org)).setCell ⟨O, 4, none⟩ (.slice q5 AM.tags.length cq5) = x4 from hx4.out]
                obtain ⟨HZ⟩ : Nonempty (Hid (TB w x4 B ta tn #[.slice p0 A.path.length cp0, .int .i64 A.pref, .int .i64 A.med, .int .i64 A.org, .slice q0 A.tags.length cq0] ∧ x4.heap[O]? = some (.cells #[.slice p5 AM.path.length cp5, .int .i64 AM.pref, .int .i64 AM.med, .int .i64 AM.org, .slice q5 AM.tags.length cq5] 27 (0, 0)) ∧ AttrK x4 (.agg #[.slice p5 AM.path.length cp5, .int .i64 AM.pref, .int .i64 AM.med, .int .i64 AM.org, .slice q5 AM.tags.length cq5]) AM ∧ IsErr x4 E u5 cM dM)) := ⟨by
                  rw [← show ((((x3.setCell ⟨O, 0, none⟩ (.slice p5 AM.path.length cp5)).setCell ⟨O, 1, none⟩ (.int .i64 AM.pref)).setCell ⟨O, 2, none⟩ (.int .i64 AM.med)).setCell ⟨O, 3, none⟩ (.int .i64 AM.org)).setCell ⟨O, 4, none⟩ (.slice q5 AM.tags.length cq5) = x4 from hx4.out]
                  have l := HO3.out.2.1
                  exact ⟨((((HT3.out.1.setO l _ _).setO l _ _).setO l _ _).setO l _ _).setO l _ _, set5_n HO3.out.1 _ _ _ _ _, (HG.out.1.set5 (B := O) HG.out.2.1 _ _ _ _ _).attrK, isErr_set5 HG.out.2.2 HO3.out.1 _ _ _ _ _⟩⟩
                clear hx4 e0 e1 e2 e3 e4 z0 z1 z2 z3 z4
                refine hK.out _ _ HZ.out.1 (fun hHeld => ?_)
                clear hK K
                try simp only [Act.put, List.setIfInBounds_toArray, List.set_cons_zero, List.set_cons_succ, List.getElem_toArray, List.getElem_cons_zero, List.getElem_cons_succ]
                refine wpAnyH_take (i := 12) (v := ?_) rfl (by kernel_rfl) (by kernel_rfl) (by kernel_rfl) (fun _ _ _ h => h) (Or.inl ⟨by rfl, ?_⟩) (by assumption) ?_
                rotate_left
                · (intro w hSw; (try dsimp only at hSw); go_simp; try (with_reducible rfl))
                try simp only [Act.put, List.setIfInBounds_toArray, List.set_cons_zero, List.set_cons_succ, List.getElem_toArray, List.getElem_cons_zero, List.getElem_cons_succ]
                refine wpAnyH_take (i := 13) (v := ?_) rfl (by kernel_rfl) (by kernel_rfl) (by kernel_rfl) (fun _ _ _ h => h) (Or.inl ⟨by rfl, ?_⟩) (by assumption) ?_
                rotate_left
                · (intro w hSw; (try dsimp only at hSw); go_simp; try (with_reducible rfl))
                try simp only [Act.put, List.setIfInBounds_toArray, List.set_cons_zero, List.set_cons_succ, List.getElem_toArray, List.getElem_cons_zero, List.getElem_cons_succ]
                refine wpAnyH_done (by kernel_rfl) ?_ _
                refine NoPanic.normal ?_
                show K0 _ _
                refine hK0 _ _ (Met.intro (hJ0 _ _ ?_))
                (repeat apply Exists.intro)
                exact ⟨⟨O, p5, cp5, q5, cq5, u5, x4, rfl, rfl, rfl, HZ, rfl⟩, rfl⟩
            · skip
              go_simp
              obtain ⟨O, hO⟩ : ∃ b, Hid (x0.drew.heap.size = b) := ⟨_, show _ = _ from rfl⟩
              obtain ⟨x1, hx1⟩ : ∃ y, Hid ((x0.alloc (.cells #[.slice none 0 0, .int .i64 0, .int .i64 0, .int .i64 0, .slice none 0 0] 27)).drew = y) := ⟨_, show _ = _ from rfl⟩
              have hb : Below x0.drew.heap.size x0.drew x1 := by rw [← show (x0.alloc (.cells #[.slice none 0 0, .int .i64 0, .int .i64 0, .int .i64 0, .slice none 0 0] 27)).drew = x1 from hx1.out]; exact below_alloc (x0.drew) _
              obtain ⟨HT1⟩ : Nonempty (Hid (TB w x1 B ta tn #[.slice p0 A.path.length cp0, .int .i64 A.pref, .int .i64 A.med, .int .i64 A.org, .slice q0 A.tags.length cq0] ∧ Rules x1 p3 L)) := ⟨⟨HT0.out.1.on hb, HT0.out.2.below hb⟩⟩
              obtain ⟨HO1⟩ : Nonempty (Hid (x1.heap[O]? = some (.cells #[.slice none 0 0, .int .i64 0, .int .i64 0, .int .i64 0, .slice none 0 0] 27 (0, 0)) ∧ B + 1 < O ∧ O < x1.heap.size)) := ⟨by
                have hh : x1.heap[O]? = some (.cells #[.slice none 0 0, .int .i64 0, .int .i64 0, .int .i64 0, .slice none 0 0] 27 (0, 0)) := by rw [← show (x0.alloc (.cells #[.slice none 0 0, .int .i64 0, .int .i64 0, .int .i64 0, .slice none 0 0] 27)).drew = x1 from hx1.out, ← show x0.drew.heap.size = O from hO.out]; exact Go.heap_alloc_new (x0.drew) _
                exact ⟨hh, by rw [← show x0.drew.heap.size = O from hO.out]; exact HT0.out.1.size, (Array.getElem?_eq_some_iff.1 hh).1⟩⟩
              rw [show (x0.alloc (.cells #[.slice none 0 0, .int .i64 0, .int .i64 0, .int .i64 0, .slice none 0 0] 27)).drew = x1 from hx1.out, show x0.heap.size = O from hO.out]
              clear hx1 hO hb
              refine hK.out _ _ HT1.out.1 (fun hHeld => ?_)
              clear hK K
              try simp only [Act.put, List.setIfInBounds_toArray, List.set_cons_zero, List.set_cons_succ, List.getElem_toArray, List.getElem_cons_zero, List.getElem_cons_succ]
              refine wpAnyH_ready (rs := [4]) (by kernel_rfl) (by simp) ?_
              refine AllReadyH.cons rfl (fun K hK => ?_) AllReadyH.nil
              go_simp
              refine (HOA.out x1 HT1.out.1.2.2).mono ?_
              rintro e x2 ⟨⟨v4, rfl, hv4⟩, hb⟩
              obtain ⟨HT2⟩ : Nonempty (Hid (TB w x2 B ta tn #[.slice p0 A.path.length cp0, .int .i64 A.pref, .int .i64 A.med, .int .i64 A.org, .slice q0 A.tags.length cq0] ∧ Rules x2 p3 L)) := ⟨⟨HT1.out.1.on hb, HT1.out.2.below hb⟩⟩
              obtain ⟨HO2⟩ : Nonempty (Hid (x2.heap[O]? = some (.cells #[.slice none 0 0, .int .i64 0, .int .i64 0, .int .i64 0, .slice none 0 0] 27 (0, 0)) ∧ B + 1 < O ∧ O < x2.heap.size)) := ⟨⟨by rw [hb.block _ HO1.out.2.2]; exact HO1.out.1, HO1.out.2.1, Nat.lt_of_lt_of_le HO1.out.2.2 hb.size⟩⟩
              obtain ⟨HV2⟩ : Nonempty (Hid (AttrK x2 v4 A)) := ⟨hv4⟩
              clear hb hv4
              refine hK.out _ _ HT2.out.1 (fun hHeld => ?_)
              clear hK K
              try simp only [Act.put, List.setIfInBounds_toArray, List.set_cons_zero, List.set_cons_succ, List.getElem_toArray, List.getElem_cons_zero, List.getElem_cons_succ]
              refine wpAnyH_ready (rs := [5]) (by kernel_rfl) (by simp) ?_
              refine AllReadyH.cons rfl (fun K hK => ?_) AllReadyH.nil
              go_simp
              refine (HAP.out p3 cp3 v4 x2 HT2.out.1.2.2 HT2.out.2 HV2.out).mono ?_
              rintro e x3 ⟨⟨v5, u5, rfl, hg5, he5⟩, hb⟩
              obtain ⟨p5, cp5, q5, cq5, rfl, j1, j2, j3, j4, m1, m2⟩ := hg5
              obtain ⟨HT3⟩ : Nonempty (Hid (TB w x3 B ta tn #[.slice p0 A.path.length cp0, .int .i64 A.pref, .int .i64 A.med, .int .i64 A.org, .slice q0 A.tags.length cq0] ∧ Rules x3 p3 L)) := ⟨⟨HT2.out.1.on hb, HT2.out.2.below hb⟩⟩
              obtain ⟨HO3⟩ : Nonempty (Hid (x3.heap[O]? = some (.cells #[.slice none 0 0, .int .i64 0, .int .i64 0, .int .i64 0, .slice none 0 0] 27 (0, 0)) ∧ B + 1 < O ∧ O < x3.heap.size)) := ⟨⟨by rw [hb.block _ HO2.out.2.2]; exact HO2.out.1, HO2.out.2.1, Nat.lt_of_lt_of_le HO2.out.2.2 hb.size⟩⟩
              obtain ⟨HG⟩ : Nonempty (Hid (AttrG x3 (.agg #[.slice p5 AM.path.length cp5, .int .i64 AM.pref, .int .i64 AM.med, .int .i64 AM.org, .slice q5 AM.tags.length cq5]) AM x2.heap.size ∧ O < x2.heap.size ∧ IsErr x3 E u5 cM dM)) := ⟨⟨⟨p5, cp5, q5, cq5, rfl, j1, j2, j3, j4, m1, m2⟩, HO2.out.2.2, he5⟩⟩
              clear hb he5 j1 j2 j3 j4 m1 m2
              refine hK.out _ _ HT3.out.1 (fun hHeld => ?_)
              clear hK K
              try simp only [Act.put, List.setIfInBounds_toArray, List.set_cons_zero, List.set_cons_succ, List.getElem_toArray, List.getElem_cons_zero, List.getElem_cons_succ]
              refine wpAnyH_take (i := 6) (v := ?_) rfl (by kernel_rfl) (by kernel_rfl) (by kernel_rfl) (fun _ _ _ h => h) (Or.inl ⟨by rfl, ?_⟩) (by assumption) ?_
              rotate_left
              · (intro w hSw; (try dsimp only at hSw); go_simp; try (with_reducible rfl))
              try simp only [Act.put, List.setIfInBounds_toArray, List.set_cons_zero, List.set_cons_succ, List.getElem_toArray, List.getElem_cons_zero, List.getElem_cons_succ]
              refine wpAnyH_take (i := 7) (v := ?_) rfl (by kernel_rfl) (by kernel_rfl) (by kernel_rfl) (fun _ _ _ h => h) (Or.inl ⟨by rfl, ?_⟩) (by assumption) ?_
              rotate_left
              · (intro w hSw; (try dsimp only at hSw); go_simp; try (with_reducible rfl))
              try simp only [Act.put, List.setIfInBounds_toArray, List.set_cons_zero, List.set_cons_succ, List.getElem_toArray, List.getElem_cons_zero, List.getElem_cons_succ]
              refine wpAnyH_take (i := 8) (v := ?_) rfl (by kernel_rfl) (by kernel_rfl) (by kernel_rfl) (fun _ _ _ h => h) (Or.inl ⟨by rfl, ?_⟩) (by assumption) ?_
              rotate_left
              · (intro w hSw; (try dsimp only at hSw); go_simp; try (with_reducible rfl))
              try simp only [Act.put, List.setIfInBounds_toArray, List.set_cons_zero, List.set_cons_succ, List.getElem_toArray, List.getElem_cons_zero, List.getElem_cons_succ]
              refine wpAnyH_take (i := 9) (v := ?_) rfl (by kernel_rfl) (by kernel_rfl) (by kernel_rfl) (fun _ _ _ h => h) (Or.inl ⟨by rfl, ?_⟩) (by assumption) ?_
              rotate_left
              · (intro w hSw; (try dsimp only at hSw); go_simp; try (with_reducible rfl))
              try simp only [Act.put, List.setIfInBounds_toArray, List.set_cons_zero, List.set_cons_succ, List.getElem_toArray, List.getElem_cons_zero, List.getElem_cons_succ]
              refine wpAnyH_ready (rs := [11]) (by kernel_rfl) (by simp) ?_
              refine AllReadyH.cons rfl (fun K hK => ?_) AllReadyH.nil
              have hh := HO3.out.1
              have e0 : x3.cell? ⟨O, 0, none⟩ = some (.slice none 0 0) := by simp [World.cell?, hh]
              have z0 : x3.frozen? ⟨O, 0, none⟩ = false := by simp [World.frozen?, hh]
              have e1 : x3.cell? ⟨O, 1, none⟩ = some (.int .i64 0) := by simp [World.cell?, hh]
              have z1 : x3.frozen? ⟨O, 1, none⟩ = false := by simp [World.frozen?, hh]
              have e2 : x3.cell? ⟨O, 2, none⟩ = some (.int .i64 0) := by simp [World.cell?, hh]
              have z2 : x3.frozen? ⟨O, 2, none⟩ = false := by simp [World.frozen?, hh]
              have e3 : x3.cell? ⟨O, 3, none⟩ = some (.int .i64 0) := by simp [World.cell?, hh]
              have z3 : x3.frozen? ⟨O, 3, none⟩ = false := by simp [World.frozen?, hh]
              have e4 : x3.cell? ⟨O, 4, none⟩ = some (.slice none 0 0) := by simp [World.cell?, hh]
              have z4 : x3.frozen? ⟨O, 4, none⟩ = false := by simp [World.frozen?, hh]
              clear hh
              go_simp
              obtain ⟨x4, hx4⟩ : ∃ y, Hid (((((x3.setCell ⟨O, 0, none⟩ (.slice p5 AM.path.length cp5)).setCell ⟨O, 1, none⟩ (.int .i64 AM.pref)).setCell ⟨O, 2, none⟩ (.int .i64 AM.med)).setCell ⟨O, 3, none⟩ (.int .i64 AM.org)).setCell ⟨O, 4, none⟩ (.slice q5 AM.tags.length cq5) = y) := ⟨_, show _ = _ from rfl⟩
              rw [show ((((x3.setCell ⟨O, 0, none⟩ (.slice p5 AM.path.length cp5)).setCell ⟨O, 1, none⟩ (.int .i64 AM.pref)).setCell ⟨O, 2, none⟩ (.int .i64 AM.med)).setCell ⟨O, 3, none⟩ (.int .i64 AM.org)).setCell ⟨O, 4, none⟩ (.slice q5 AM.tags.length cq5) = x4 from hx4.out]
              obtain ⟨HZ⟩ : Nonempty (Hid (TB w x4 B ta tn #[.slice p0 A.path.length cp0, .int .i64 A.pref, .int .i64 A.med, .int .i64 A.org, .slice q0 A.tags.length cq0] ∧ x4.heap[O]? = some (.cells #[.slice p5 AM.path.length cp5, .int .i64 AM.pref, .int .i64 AM.med, .int .i64 AM.org, .slice q5 AM.tags.length cq5] 27 (0, 0)) ∧ AttrK x4 (.agg #[.slice p5 AM.path.length cp5, .int .i64 AM.pref, .int .i64 AM.med, .int .i64 AM.org, .slice q5 AM.tags.length cq5]) AM ∧ IsErr x4 E u5 cM dM)) := ⟨by
                rw [← show ((((x3.setCell ⟨O, 0, none⟩ (.slice p5 AM.path.length cp5)).setCell ⟨O, 1, none⟩ (.int .i64 AM.pref)).setCell ⟨O, 2, none⟩ (.int .i64 AM.med)).setCell ⟨O, 3, none⟩ (.int .i64 AM.org)).setCell ⟨O, 4, none⟩ (.slice q5 AM.tags.length cq5) = x4 from hx4.out]
                have l := HO3.out.2.1
                exact ⟨((((HT3.out.1.setO l _ _).setO l _ _).setO l _ _).setO l _ _).setO l _ _, set5_n HO3.out.1 _ _ _ _ _, (HG.out.1.set5 (B := O) HG.out.2.1 _ _ _ _ _).attrK, isErr_set5 HG.out.2.2 HO3.out.1 _ _ _ _ _⟩⟩
              clear hx4 e0 e1 e2 e3 e4 z0 z1 z2 z3 z4
              refine hK.out _ _ HZ.out.1 (fun hHeld => ?_)
              clear hK K
              try simp only [Act.put, List.setIfInBounds_toArray, List.set_cons_zero, List.set_cons_succ, List.getElem_toArray, List.getElem_cons_zero, List.getElem_cons_succ]
              refine wpAnyH_take (i := 12) (v := ?_) rfl (by kernel_rfl) (by kernel_rfl) (by kernel_rfl) (fun _ _ _ h => h) (Or.inl ⟨by rfl, ?_⟩) (by assumption) ?_
              rotate_left
              · (intro w hSw; (try dsimp only at hSw); go_simp; try (with_reducible rfl))
              try simp only [Act.put, List.setIfInBounds_toArray, List.set_cons_zero, List.set_cons_succ, List.getElem_toArray, List.getElem_cons_zero, List.getElem_cons_succ]
              refine wpAnyH_take (i := 13) (v := ?_) rfl (by kernel_rfl) (by kernel_rfl) (by kernel_rfl) (fun _ _ _ h => h) (Or.inl ⟨by rfl, ?_⟩) (by assumption) ?_
              rotate_left
              · (intro w hSw; (try dsimp only at hSw); go_simp; try (with_reducible rfl))
              try simp only [Act.put, List.setIfInBounds_toArray, List.set_cons_zero, List.set_cons_succ, List.getElem_toArray, List.getElem_cons_zero, List.getElem_cons_succ]
              refine wpAnyH_done (by kernel_rfl) ?_ _
              refine NoPanic.normal ?_
              show K0 _ _
              refine hK0 _ _ (Met.intro (hJ0 _ _ ?_))
              (repeat apply Exists.intro)
              exact ⟨⟨O, p5, cp5, q5, cq5, u5, x4, rfl, rfl, rfl, HZ, rfl⟩, rfl⟩
          case rest =>
            obtain ⟨O, p5, cp5, q5, cq5, u5, W, rfl, rfl, hu5, HZ, hW⟩ := hcut
            subst hW
            replace hu5 := hu5.symm
            subst hu5
            clear HAP HOA
            obtain ⟨a0, a1⟩ := HZ.out.1.pre
            obtain ⟨b0, b1, b2, b3, b4⟩ := HZ.out.1.arg
            go_wp2_with fail
            refine (HRA.out W HZ.out.1.2.2).mono ?_
            rintro e w7 ⟨⟨v7, rfl, hv7⟩, hb7⟩
            obtain ⟨p6, cp6, q6, cq6, rfl, j1, j2, j3, j4⟩ := hv7
            obtain ⟨HZ7⟩ : Nonempty (Hid (TB w w7 B ta tn #[.slice p0 A.path.length cp0, .int .i64 A.pref, .int .i64 A.med, .int .i64 A.org, .slice q0 A.tags.length cq0] ∧ w7.heap[O]? = some (.cells #[.slice p5 AM.path.length cp5, .int .i64 AM.pref, .int .i64 AM.med, .int .i64 AM.org, .slice q5 AM.tags.length cq5] 27 (0, 0)) ∧ AttrK w7 (.agg #[.slice p5 AM.path.length cp5, .int .i64 AM.pref, .int .i64 AM.med, .int .i64 AM.org, .slice q5 AM.tags.length cq5]) AM ∧ IsErr w7 E u5 cM dM ∧ AttrK w7 (.agg #[.slice p6 AM.path.length cp6, .int .i64 AM.pref, .int .i64 AM.med, .int .i64 AM.org, .slice q6 AM.tags.length cq6]) AM)) := ⟨⟨HZ.out.1.on hb7, by rw [hb7.block _ (Array.getElem?_eq_some_iff.1 HZ.out.2.1).1]; exact HZ.out.2.1, HZ.out.2.2.1.below hb7, HZ.out.2.2.2.below hb7, p6, cp6, q6, cq6, rfl, j1, j2, j3, j4⟩⟩
            have hh := HZ7.out.2.1
            have e0 : w7.cell? ⟨O, 0, none⟩ = some (.slice p5 AM.path.length cp5) := by simp [World.cell?, hh]
            have e1 : w7.cell? ⟨O, 1, none⟩ = some (.int .i64 AM.pref) := by simp [World.cell?, hh]
            have e2 : w7.cell? ⟨O, 2, none⟩ = some (.int .i64 AM.med) := by simp [World.cell?, hh]
            have e3 : w7.cell? ⟨O, 3, none⟩ = some (.int .i64 AM.org) := by simp [World.cell?, hh]
            have e4 : w7.cell? ⟨O, 4, none⟩ = some (.slice q5 AM.tags.length cq5) := by simp [World.cell?, hh]
            have hol : O < w7.heap.size := (Array.getElem?_eq_some_iff.1 hh).1
            have hbm : (bM == bM) = true := by simp
            have hby := below_two w7 (.cells #[.slice p6 AM.path.length cp6, .int .i64 AM.pref, .int .i64 AM.med, .int .i64 AM.org, .slice q6 AM.tags.length cq6] 27) (.cells #[.int .i64 (cM : Int), .int .i64 dM] 36)
            obtain ⟨t0, t1⟩ := box_at2 w7 (.cells #[.slice p6 AM.path.length cp6, .int .i64 AM.pref, .int .i64 AM.med, .int .i64 AM.org, .slice q6 AM.tags.length cq6] 27) (.int .i64 (cM : Int)) (.int .i64 dM) 36
            obtain ⟨HBY⟩ : Nonempty (Hid (Below w7.heap.size w7 _)) := ⟨hby⟩
            obtain ⟨HT01⟩ : Nonempty (Hid (World.cell? _ _ = _ ∧ World.cell? _ _ = _)) := ⟨⟨t0, t1⟩⟩
            clear hb7 HZ a0 a1 b0 b1 b2 b3 b4 j1 j2 j3 j4 hh HRA hby t0 t1
            go_wp2_with fail
            refine (HSM.out _ _ _ (HZ7.out.2.2.1.attr.below (below_two _ _ _)) (HZ7.out.2.2.2.2.attr.below (below_two _ _ _))).mono ?_
            rintro e w8 ⟨rfl, hb8⟩
            have t0 := cell_kept hb8 HT01.out.1
            have t1 := cell_kept hb8 HT01.out.2
            obtain ⟨HZ8⟩ : Nonempty (Hid (TB w w8 B ta tn #[.slice p0 A.path.length cp0, .int .i64 A.pref, .int .i64 A.med, .int .i64 A.org, .slice q0 A.tags.length cq0] ∧ IsErr w8 E u5 cM dM)) := ⟨⟨(HZ7.out.1.on HBY.out).on hb8, (HZ7.out.2.2.2.1.below HBY.out).below hb8⟩⟩
            clear hb8 HZ7 HSM HT01 HBY e0 e1 e2 e3 e4 hol
            go_wp2_with fail
            refine (HFM.out u5 w8 HZ8.out.1.2.2 HZ8.out.2).mono ?_
            rintro e w9 ⟨rfl, hb9⟩
            obtain ⟨HZ9⟩ : Nonempty (Hid (TB w w9 B ta tn #[.slice p0 A.path.length cp0, .int .i64 A.pref, .int .i64 A.med, .int .i64 A.org, .slice q0 A.tags.length cq0])) := ⟨HZ8.out.1.on hb9⟩
            clear hb9 HZ8
            go_wp2_with fail
            go_ret
            exact ⟨rfl, by first | exact HZ9.out.2.2 | (rw [show w.heap.size = B from hB.out]; exact HZ9.out.2.2)⟩
end Go.Proofs.YtnifhaopjhgmnaaGreatDoor
