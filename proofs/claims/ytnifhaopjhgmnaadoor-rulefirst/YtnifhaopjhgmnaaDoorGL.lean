/-
  Package rule's Apply in one sentence; OwnRules; the closed fact of the rules' laws (ruled).
  Rules behind the first that fits, one that does not fit, one more for all: what Apply answers (plain mathematics).
  RuleFirst: what it leans on; its early ends; rules that are wrong.
-/
import Derived.Test.YtnifhaopjhgmnaaDoorRuleApply
import Derived.Deep.Cut
import Derived.Deep.CutRange
namespace Go.Proofs.YtnifhaopjhgmnaaDoor
open Go.RowKit

theorem apply_any (p : Option Addr) (L : List Rl) (cp : Nat) (x ta tn : Int) (v : Value) (A : At) (E : Nat → Addr) (m : Int) (w : World) (hE : RuleEnv w E m) (h : Rules w p L) (ha : AttrK w v A) (hl : L.length ≤ 1000000) (h1 : A.path.length ≤ 1000) (h2 : A.tags.length ≤ 1000) :
    Calls Tryd.prog 6 #[.slice p L.length cp, .int .i64 x, .agg #[.int .i64 ta, .int .i64 tn], v] w fun r w' => (∃ v' u, r = .returned (.tuple #[v', .bool (appB L x ta tn A), u]) ∧ AttrG w' v' (appA L x ta tn A) w.heap.size ∧ IsErr w' E u (appC L x ta tn A).1 (appC L x ta tn A).2) ∧ Below w.heap.size w w' := by
  by_cases hc : 0 < (allC L ta tn A).1
  · rw [show appB L x ta tn A = false by unfold appB; rw [if_pos hc], show appC L x ta tn A = allC L ta tn A by unfold appC; rw [if_pos hc], show appA L x ta tn A = noneA by unfold appA; rw [if_pos hc]]
    exact apply_bad p L cp x ta tn v A E m w hE h ha hl h1 h2 hc
  · by_cases hn : L.length = 0
    · have hg : goB L ta tn A = false := by unfold goB; rw [decide_eq_false (by omega)]; rfl
      rw [show appB L x ta tn A = true by unfold appB; rw [if_neg hc, if_pos hn], show appC L x ta tn A = (0, -1) by unfold appC; rw [if_neg hc, hg]; rfl, show appA L x ta tn A = A by unfold appA; rw [if_neg hc, if_pos hn]]
      exact apply_none p L cp x ta tn v A E m w hE h ha hl h1 h2 hc hn
    · by_cases hk : fitK L ta tn A < L.length
      · cases hd : (ruleN L (fitK L ta tn A)).deny with
        | true =>
          have hg : goB L ta tn A = false := by unfold goB; rw [hd]; simp
          rw [show appB L x ta tn A = false by unfold appB; rw [if_neg hc, if_neg hn, hg]; rfl, show appC L x ta tn A = (0, -1) by unfold appC; rw [if_neg hc, hg]; rfl, show appA L x ta tn A = noneA by unfold appA; rw [if_neg hc, if_neg hn, hg]; rfl]
          exact apply_deny p L cp x ta tn v A E m w hE h ha hl h1 h2 hc hn hk hd
        | false =>
          have hg : goB L ta tn A = true := by unfold goB; rw [hd, decide_eq_true hk]; rfl
          rw [show appB L x ta tn A = decide (madeC (ruleN L (fitK L ta tn A)) x A = 0) by unfold appB; rw [if_neg hc, if_neg hn, if_pos hg], show appC L x ta tn A = (madeC (ruleN L (fitK L ta tn A)) x A, -1) by unfold appC; rw [if_neg hc, if_pos hg], show appA L x ta tn A = (if madeC (ruleN L (fitK L ta tn A)) x A = 0 then madeA (ruleN L (fitK L ta tn A)) x A else noneA) by unfold appA; rw [if_neg hc, if_neg hn, if_pos hg]]
          exact apply_made p L cp x ta tn v A E m w hE h ha hl h1 h2 hc hn hk hd
      · have hg : goB L ta tn A = false := by unfold goB; rw [decide_eq_false hk]; rfl
        rw [show appB L x ta tn A = false by unfold appB; rw [if_neg hc, if_neg hn, hg]; rfl, show appC L x ta tn A = (0, -1) by unfold appC; rw [if_neg hc, hg]; rfl, show appA L x ta tn A = noneA by unfold appA; rw [if_neg hc, if_neg hn, hg]; rfl]
        exact apply_miss p L cp x ta tn v A E m w hE h ha hl h1 h2 hc hn hk
theorem ownRules_any (L : List Rl) (p : Option Addr) (c : Nat) (w : World) (hL : Rules w p L) (hk : KindR p L.length c) (hl : L.length ≤ 1000000) :
    Calls Tryd.prog 10 #[.slice p L.length c] w fun e w' => (∃ v, e = .returned v ∧ w'.ownsRow w.heap.size 37 11 v L.length (flatR L)) ∧ Below w.heap.size w w' := by
  obtain ⟨i0, hi, hz0, hz1, hz2⟩ := infoRule
  obtain ⟨O', HO'⟩ : ∃ O', Hid (([] : List Rl) ++ L = O') := ⟨_, show _ = _ from rfl⟩
  have hnil : w.ownsRow w.heap.size 37 11 (.slice none 0 0) ([] : List Rl).length (flatR []) := World.ownsRow_nil _ _ _ _
  obtain ⟨HL⟩ : Nonempty (Hid (Rules w p L ∧ KindR p L.length c)) := ⟨⟨hL, hk⟩⟩
  clear hL hk
  go_enter Tryd.func10, Tryd.ntmps10
  go_wp2_with (at_builtin; refine wp_addAllR rfl _ _ 22 rfl w.heap.size 37 i0 Tryd.underlying22 hi hz0 hz1 hz2 _ [] rfl hnil p L L.length c rfl rfl HL.out.2 HL.out.1 O' HO' (by simp; omega) (Nat.le_refl _) ?_)
  intro v' w1 hown hb
  have hO := HO'.out
  rw [List.nil_append] at hO
  subst hO
  go_wp2
  go_ret
  exact ⟨⟨_, rfl, hown⟩, hb⟩

/-- the closed fact's rules, and what it applies them to. -/
def ruleA : Rl := ⟨256, 24, 0, 32, 0, 0, true, 0, 0, 0, 0⟩
def ruleB : Rl := ⟨0, 0, 0, 32, 0, 0, false, 200, -1, 0, 0⟩
def ruledA : At := ⟨[], 100, 0, 0, []⟩
theorem ruled_one : appB [ruleA, ruleB] 7 300 32 ruledA = false ∧ appC [ruleA, ruleB] 7 300 32 ruledA = (0, -1) := ⟨by kernel_rfl, by kernel_rfl⟩
theorem ruled_two : appB [ruleA, ruleB] 7 600 32 ruledA = true ∧ appC [ruleA, ruleB] 7 600 32 ruledA = (0, -1) ∧ appA [ruleA, ruleB] 7 600 32 ruledA = ⟨[], 200, 0, 0, []⟩ := ⟨by kernel_rfl, by kernel_rfl, by kernel_rfl⟩
theorem ruled_row (w : World) : Rules (w.alloc (.cells #[.int .i64 256, .int .i64 24, .int .i64 0, .int .i64 32, .int .i64 0, .int .i64 0, .bool true, .int .i64 0, .int .i64 0, .int .i64 0, .int .i64 0, .int .i64 0, .int .i64 0, .int .i64 0, .int .i64 32, .int .i64 0, .int .i64 0, .bool false, .int .i64 200, .int .i64 (-1), .int .i64 0, .int .i64 0] 37)) (some ⟨w.heap.size, 0, none⟩) [ruleA, ruleB] := fun i hi => by
  refine ⟨w.heap.size, 0, rfl, fun k v hk => ?_⟩
  have hk11 : k < 11 := by have := (List.getElem?_eq_some_iff.1 hk).1; simpa [encR] using this
  rw [World.cell?_alloc_at _ _ _ _ rfl, Nat.zero_add]
  have := flatR_get [ruleA, ruleB] i k hi hk11
  rw [hk] at this
  simpa [flatR, encR, ruleA, ruleB] using this
theorem ruled_boxed (w : World) : Below w.heap.size w (w.alloc (.cells #[.int .i64 256, .int .i64 24, .int .i64 0, .int .i64 32, .int .i64 0, .int .i64 0, .bool true, .int .i64 0, .int .i64 0, .int .i64 0, .int .i64 0, .int .i64 0, .int .i64 0, .int .i64 0, .int .i64 32, .int .i64 0, .int .i64 0, .bool false, .int .i64 200, .int .i64 (-1), .int .i64 0, .int .i64 0] 37)) ∧ Rules (w.alloc (.cells #[.int .i64 256, .int .i64 24, .int .i64 0, .int .i64 32, .int .i64 0, .int .i64 0, .bool true, .int .i64 0, .int .i64 0, .int .i64 0, .int .i64 0, .int .i64 0, .int .i64 0, .int .i64 0, .int .i64 32, .int .i64 0, .int .i64 0, .bool false, .int .i64 200, .int .i64 (-1), .int .i64 0, .int .i64 0] 37)) (some ⟨w.heap.size, 0, none⟩) [ruleA, ruleB] := ⟨below_alloc _ _, ruled_row w⟩
set_option linter.unusedSimpArgs false in
set_option linter.unusedVariables false in
set_option maxRecDepth 100000 in
set_option maxHeartbeats 4000000 in
theorem ruled_any (E : Nat → Addr) (m : Int) (w : World) (hE : RuleEnv w E m) :
    Calls Tryd.prog 4 #[] w fun r w' => r = .returned (.bool true) ∧ Below w.heap.size w w' := by
  obtain ⟨HO⟩ : Nonempty (Hid (∀ w', Calls _ _ _ _ _)) := ⟨fun w' => own_none w'⟩
  obtain ⟨HA⟩ : Nonempty (Hid (∀ (v : Value) (b : Nat) w', Below w.heap.size w w' → Rules w' (some ⟨b, 0, none⟩) [ruleA, ruleB] → AttrK w' v ruledA → Calls Tryd.prog 6 #[.slice (some ⟨b, 0, none⟩) 2 2, .int .i64 7, .agg #[.int .i64 300, .int .i64 32], v] w' fun r w'' => (∃ (p : Option Addr) (n cp : Nat) (f0 f1 f2 : Int) (q : Option Addr) (k cq : Nat), r = .returned (.tuple #[.agg #[.slice p n cp, .int .i64 f0, .int .i64 f1, .int .i64 f2, .slice q k cq], .bool false, .nilIface])) ∧ Below w'.heap.size w' w'')) := ⟨fun v b w' hb hr hv => by
    refine (apply_any (some ⟨b, 0, none⟩) [ruleA, ruleB] 2 7 300 32 v ruledA E m w' (hE.below hb) hr hv (by decide) (by decide) (by decide)).mono ?_
    rintro r w'' ⟨⟨v', u, rfl, hg, he⟩, hbb⟩
    rw [ruled_one.1, ruled_one.2] at *
    obtain ⟨p, cp, q, cq, rfl, -, -, -, -, -, -⟩ := hg
    rcases isErr_cases he with ⟨-, rfl⟩ | ⟨h0, -⟩
    · exact ⟨⟨p, _, cp, _, _, _, q, _, cq, rfl⟩, hbb⟩
    · exact absurd h0 (by decide)⟩
  obtain ⟨HB⟩ : Nonempty (Hid (∀ (v : Value) (b : Nat) w', Below w.heap.size w w' → Rules w' (some ⟨b, 0, none⟩) [ruleA, ruleB] → AttrK w' v ruledA → Calls Tryd.prog 6 #[.slice (some ⟨b, 0, none⟩) 2 2, .int .i64 7, .agg #[.int .i64 600, .int .i64 32], v] w' fun r w'' => (∃ p cp q cq, r = .returned (.tuple #[.agg #[.slice p 0 cp, .int .i64 200, .int .i64 0, .int .i64 0, .slice q 0 cq], .bool true, .nilIface])) ∧ Below w'.heap.size w' w'')) := ⟨fun v b w' hb hr hv => by
    refine (apply_any (some ⟨b, 0, none⟩) [ruleA, ruleB] 2 7 600 32 v ruledA E m w' (hE.below hb) hr hv (by decide) (by decide) (by decide)).mono ?_
    rintro r w'' ⟨⟨v', u, rfl, hg, he⟩, hbb⟩
    rw [ruled_two.2.2] at hg
    rw [ruled_two.2.1] at he
    rw [ruled_two.1]
    obtain ⟨p, cp, q, cq, rfl, -, -, -, -, -, -⟩ := hg
    rcases isErr_cases he with ⟨-, rfl⟩ | ⟨h0, -⟩
    · exact ⟨⟨p, cp, q, cq, rfl⟩, hbb⟩
    · exact absurd h0 (by decide)⟩
  obtain ⟨HR⟩ : Nonempty (Hid (Below w.heap.size w _ ∧ Rules _ (some ⟨w.heap.size, 0, none⟩) [ruleA, ruleB])) := ⟨ruled_boxed w⟩
  clear hE
  go_enter Tryd.func4, Tryd.ntmps4
  go_wp2_with fail
  refine (HO.out _).mono ?_
  rintro e w1 ⟨⟨v1, rfl, hv1⟩, hb1⟩
  obtain ⟨HR1⟩ : Nonempty (Hid (Below w.heap.size w w1 ∧ Rules w1 (some ⟨w.heap.size, 0, none⟩) [ruleA, ruleB] ∧ AttrK w1 v1 ruledA)) := ⟨⟨HR.out.1.trans (hb1.mono HR.out.1.size), HR.out.2.below hb1, hv1⟩⟩
  clear hb1 hv1 HR
  go_wp2_with fail
  refine (HA.out v1 _ w1 HR1.out.1 HR1.out.2.1 HR1.out.2.2).mono ?_
  rintro e w2 ⟨⟨p2, n2, cp2, f0, f1, f2, q2, k2, cq2, rfl⟩, hb2⟩
  obtain ⟨HR2⟩ : Nonempty (Hid (Below w.heap.size w w2 ∧ Rules w2 (some ⟨w.heap.size, 0, none⟩) [ruleA, ruleB])) := ⟨⟨HR1.out.1.trans (hb2.mono HR1.out.1.size), HR1.out.2.1.below hb2⟩⟩
  clear hb2 HR1
  go_wp2_with fail
  refine (HO.out _).mono ?_
  rintro e w3 ⟨⟨v3, rfl, hv3⟩, hb3⟩
  obtain ⟨HR3⟩ : Nonempty (Hid (Below w.heap.size w w3 ∧ Rules w3 (some ⟨w.heap.size, 0, none⟩) [ruleA, ruleB] ∧ AttrK w3 v3 ruledA)) := ⟨⟨(HR2.out.1.alloc HR2.out.1.size _).trans (hb3.mono (Nat.le_trans HR2.out.1.size (below_alloc _ _).size)), (HR2.out.2.below (below_alloc _ _)).below hb3, hv3⟩⟩
  clear hb3 hv3 HR2
  go_wp2_with fail
  refine (HB.out v3 _ w3 HR3.out.1 HR3.out.2.1 HR3.out.2.2).mono ?_
  rintro e w4 ⟨⟨p4, cp4, q4, cq4, rfl⟩, hb4⟩
  obtain ⟨HR4⟩ : Nonempty (Hid (Below w.heap.size w w4)) := ⟨HR3.out.1.trans (hb4.mono HR3.out.1.size)⟩
  clear hb4 HR3
  go_wp2_with fail
  go_ret
  exact ⟨rfl, HR4.out.alloc HR4.out.size _⟩
/-- two boxes: a prefix's, an attribute's. -/
def TB (w wr : World) (B : Nat) (ta tn : Int) (va : Array Value) : Prop :=
  wr.heap[B]? = some (.cells #[.int .i64 ta, .int .i64 tn] 24 (0, 0)) ∧ wr.heap[B + 1]? = some (.cells va 27 (0, 0)) ∧ Below B w wr
theorem TB.size {w wr : World} {B : Nat} {ta tn : Int} {va : Array Value} (h : TB w wr B ta tn va) : B + 1 < wr.heap.size := (Array.getElem?_eq_some_iff.1 h.2.1).1
theorem TB.on {w wr w' : World} {B : Nat} {ta tn : Int} {va : Array Value} (h : TB w wr B ta tn va) (hb : Below wr.heap.size wr w') : TB w w' B ta tn va := by
  have l := h.size
  obtain ⟨a, b, c⟩ := h
  exact ⟨by rw [hb.block _ (by omega)]; exact a, by rw [hb.block _ l]; exact b, c.trans (hb.mono (by omega))⟩
theorem TB.setO {w wr : World} {B O : Nat} {ta tn : Int} {va : Array Value} (h : TB w wr B ta tn va) (hO : B + 1 < O) (k : Nat) (u : Value) : TB w (wr.setCell ⟨O, k, none⟩ u) B ta tn va :=
  ⟨by rw [Below.heap_setCell _ _ _ _ (by simp; omega)]; exact h.1, by rw [Below.heap_setCell _ _ _ _ (by simp; omega)]; exact h.2.1, h.2.2.setCell (by simp; omega) _⟩
theorem tb_start (w : World) (ta tn : Int) (va : Array Value) : TB w ((w.alloc (.cells #[.int .i64 ta, .int .i64 tn] 24)).alloc (.cells va 27)) w.heap.size ta tn va := by
  obtain ⟨w0, hw0⟩ : ∃ w0, w.alloc (.cells #[.int .i64 ta, .int .i64 tn] 24) = w0 := ⟨_, rfl⟩
  have h0 := Go.heap_alloc_new w (.cells #[.int .i64 ta, .int .i64 tn] 24)
  have b0 := below_alloc w (.cells #[.int .i64 ta, .int .i64 tn] 24)
  have hs : w0.heap.size = w.heap.size + 1 := by rw [← hw0]; simp
  rw [hw0] at h0 b0 ⊢
  have h1 := Go.heap_alloc_new w0 (.cells va 27)
  have b1 := below_alloc w0 (.cells va 27)
  rw [hs] at h1
  exact ⟨by rw [b1.block _ (by omega)]; exact h0, h1, b0.trans (b1.mono (by omega))⟩
theorem TB.pre {w wr : World} {B : Nat} {ta tn : Int} {va : Array Value} (h : TB w wr B ta tn va) : wr.cell? ⟨B, 0, none⟩ = some (.int .i64 ta) ∧ wr.cell? ⟨B, 1, none⟩ = some (.int .i64 tn) := by
  constructor <;> simp [World.cell?, h.1]
theorem TB.arg {w wr : World} {B : Nat} {ta tn : Int} {a b c d e : Value} (h : TB w wr B ta tn #[a, b, c, d, e]) : wr.cell? ⟨B + 1, 0, none⟩ = some a ∧ wr.cell? ⟨B + 1, 1, none⟩ = some b ∧ wr.cell? ⟨B + 1, 2, none⟩ = some c ∧ wr.cell? ⟨B + 1, 3, none⟩ = some d ∧ wr.cell? ⟨B + 1, 4, none⟩ = some e := by
  refine ⟨?_, ?_, ?_, ?_, ?_⟩ <;> simp [World.cell?, h.2.1]
theorem isErr_set5 {w : World} {E : Nat → Addr} {u : Value} {c : Nat} {d : Int} (h : IsErr w E u c d) {O : Nat} (hO : w.heap[O]? = some (.cells #[.slice none 0 0, .int .i64 0, .int .i64 0, .int .i64 0, .slice none 0 0] 27 (0, 0))) (x0 x1 x2 x3 x4 : Value) : IsErr (((((w.setCell ⟨O, 0, none⟩ x0).setCell ⟨O, 1, none⟩ x1).setCell ⟨O, 2, none⟩ x2).setCell ⟨O, 3, none⟩ x3).setCell ⟨O, 4, none⟩ x4) E u c d := by
  rcases h with h | ⟨h0, h1, b, e, y, z⟩
  · exact .inl h
  · have hn : b ≠ O := fun hb => by
      subst hb
      have : w.cell? ⟨b, 0, none⟩ = some (.slice none 0 0) := by simp [World.cell?, hO]
      rw [this] at y
      cases y
    have hk : ∀ o vv, w.cell? ⟨b, o, none⟩ = some vv → (((((w.setCell ⟨O, 0, none⟩ x0).setCell ⟨O, 1, none⟩ x1).setCell ⟨O, 2, none⟩ x2).setCell ⟨O, 3, none⟩ x3).setCell ⟨O, 4, none⟩ x4).cell? ⟨b, o, none⟩ = some vv := fun o vv h => by
      rw [World.cell?_setCell_other _ _ _ _ (by intro he; simp at he <;> omega), World.cell?_setCell_other _ _ _ _ (by intro he; simp at he <;> omega), World.cell?_setCell_other _ _ _ _ (by intro he; simp at he <;> omega), World.cell?_setCell_other _ _ _ _ (by intro he; simp at he <;> omega), World.cell?_setCell_other _ _ _ _ (by intro he; simp at he <;> omega)]
      exact h
    exact .inr ⟨h0, h1, b, e, hk _ _ y, hk _ _ z⟩
theorem appA_len (L : List Rl) (x ta tn : Int) (A : At) (h1 : A.path.length ≤ 20) (h2 : A.tags.length ≤ 15) : (appA L x ta tn A).path.length ≤ 1000 ∧ (appA L x ta tn A).tags.length ≤ 1000 := by
  have hn : noneA.path.length ≤ 1000 ∧ noneA.tags.length ≤ 1000 := ⟨by decide, by decide⟩
  unfold appA
  split
  · exact hn
  · split
    · exact ⟨by omega, by omega⟩
    · split
      · split
        · rename_i hm
          have hml := midA_len (ruleN L (fitK L ta tn A)) A
          have hl : leadC (midA (ruleN L (fitK L ta tn A)) A) x (ruleN L (fitK L ta tn A)).lead = 0 := by
            have := leadC_sign (midA (ruleN L (fitK L ta tn A)) A) x (ruleN L (fitK L ta tn A)).lead
            unfold madeC at hm
            split at hm <;> omega
          refine ⟨?_, ?_⟩
          · show (List.replicate (ruleN L (fitK L ta tn A)).lead.toNat x ++ (midA (ruleN L (fitK L ta tn A)) A).path).length ≤ 1000
            rw [List.length_append, List.length_replicate, hml.1]
            have : (ruleN L (fitK L ta tn A)).lead ≤ 12 := by
              unfold leadC at hl
              split at hl
              · omega
              · split at hl
                · omega
                · omega
            omega
          · show (midA (ruleN L (fitK L ta tn A)) A).tags.length ≤ 1000
            omega
        · exact hn
      · exact hn
end Go.Proofs.YtnifhaopjhgmnaaDoor

namespace Go.Proofs.YtnifhaopjhgmnaaDoor
open Go.RowKit

theorem firstN_unique {bad : Nat → Bool} {n K : Nat} (h1 : K ≤ n) (h2 : ∀ j, j < K → bad j = false) (h3 : K < n → bad K = true) : firstN bad n = K := by
  have hs := firstN_spec bad n
  rcases Nat.lt_trichotomy (firstN bad n) K with h | h | h
  · have a := h2 _ h
    have b := hs.2.2 (by omega)
    rw [a] at b
    cases b
  · exact h
  · have a := hs.2.1 K h
    have b := h3 (by omega)
    rw [a] at b
    cases b
theorem fitK_le (L : List Rl) (ta tn : Int) (A : At) : fitK L ta tn A ≤ L.length := (firstN_spec _ _).1
theorem fitK_before {L : List Rl} {ta tn : Int} {A : At} {j : Nat} (h : j < fitK L ta tn A) : fitsB (ruleN L j) ta tn A = false := (firstN_spec (fun k => fitsB (ruleN L k) ta tn A) L.length).2.1 j h
theorem fitK_at {L : List Rl} {ta tn : Int} {A : At} (h : fitK L ta tn A < L.length) : fitsB (ruleN L (fitK L ta tn A)) ta tn A = true := (firstN_spec (fun k => fitsB (ruleN L k) ta tn A) L.length).2.2 h
theorem fitK_is {L : List Rl} {ta tn : Int} {A : At} {K : Nat} (h1 : K ≤ L.length) (h2 : ∀ j, j < K → fitsB (ruleN L j) ta tn A = false) (h3 : K < L.length → fitsB (ruleN L K) ta tn A = true) : fitK L ta tn A = K := firstN_unique h1 h2 h3
theorem rules_all {L : List Rl} (h : (rulesC L).1 = 0) : L.length ≤ 10 ∧ ∀ k, k < L.length → chkR (ruleN L k) = 0 := by
  unfold rulesC at h
  by_cases a : 10 < L.length
  · rw [if_pos a] at h; simp at h
  · rw [if_neg a] at h
    refine ⟨by omega, fun k hk => ?_⟩
    have hs := firstN_spec (fun k => decide (qR L k ≠ 0)) L.length
    unfold firstQ at h
    by_cases hl : firstN (fun k => decide (qR L k ≠ 0)) L.length < L.length
    · rw [if_pos hl] at h
      exact absurd h (of_decide_eq_true (hs.2.2 hl))
    · have := hs.2.1 k (by omega)
      exact Decidable.byContradiction fun e => (by rw [decide_eq_true (show qR L k ≠ 0 from e)] at this; cases this)
theorem rules_none {L : List Rl} (h1 : L.length ≤ 10) (h2 : ∀ k, k < L.length → chkR (ruleN L k) = 0) : (rulesC L).1 = 0 := by
  unfold rulesC
  rw [if_neg (by omega)]
  unfold firstQ
  by_cases hl : firstN (fun k => decide (qR L k ≠ 0)) L.length < L.length
  · have hs := (firstN_spec (fun k => decide (qR L k ≠ 0)) L.length).2.2 hl
    have := of_decide_eq_true hs
    exact absurd (h2 _ hl) this
  · rw [if_neg hl]
theorem allC_of {L : List Rl} (h : (rulesC L).1 = 0) (ta tn : Int) (A : At) : allC L ta tn A = if 0 < chkC ta tn then (chkC ta tn, -1) else ((faultA A).1.toNat, -1) := by
  unfold allC
  rw [if_neg (by omega)]
theorem app_same {L M : List Rl} {ta tn : Int} {A : At} (x : Int) (h : allC M ta tn A = allC L ta tn A) (hn : L.length ≠ 0) (hm : M.length ≠ 0) (hg : goB M ta tn A = goB L ta tn A) (hr : goB L ta tn A = true → ruleN M (fitK M ta tn A) = ruleN L (fitK L ta tn A)) :
    appC M x ta tn A = appC L x ta tn A ∧ appB M x ta tn A = appB L x ta tn A ∧ appA M x ta tn A = appA L x ta tn A := by
  unfold appC appB appA
  rw [h, hg]
  cases hgl : goB L ta tn A with
  | true =>
    rw [hr hgl]
    simp [hn, hm]
  | false => simp [hn, hm]
/-- rules behind one that fits. -/
theorem first_fit {L : List Rl} {ta tn : Int} {A : At} {k : Nat} (x : Int) (h0 : (rulesC L).1 = 0) (hk : k < L.length) (hf : fitsB (ruleN L k) ta tn A = true) :
    appC (L.take (k + 1)) x ta tn A = appC L x ta tn A ∧ appB (L.take (k + 1)) x ta tn A = appB L x ta tn A ∧ appA (L.take (k + 1)) x ta tn A = appA L x ta tn A := by
  obtain ⟨hl, ha⟩ := rules_all h0
  have hlen : (L.take (k + 1)).length = k + 1 := by simp; omega
  have hru : ∀ j, j ≤ k → ruleN (L.take (k + 1)) j = ruleN L j := fun j hj => by
    rw [ruleN_at _ j (by omega), ruleN_at L j (by omega)]; simp
  have hK : fitK L ta tn A ≤ k := by
    rcases Nat.lt_or_ge k (fitK L ta tn A) with h | h
    · have := fitK_before h
      rw [hf] at this
      cases this
    · exact h
  have hKM : fitK (L.take (k + 1)) ta tn A = fitK L ta tn A := fitK_is (by omega) (fun j hj => by rw [hru j (by omega)]; exact fitK_before hj) (fun _ => by rw [hru _ hK]; exact fitK_at (by omega))
  have hrM : (rulesC (L.take (k + 1))).1 = 0 := rules_none (by omega) (fun j hj => by rw [hru j (by omega)]; exact ha j (by omega))
  refine app_same x (by rw [allC_of h0, allC_of hrM]) (by omega) (by omega) ?_ (fun _ => by rw [hKM, hru _ hK])
  unfold goB
  rw [hKM, hru _ hK, hlen, decide_eq_true (by omega), decide_eq_true (by omega)]
theorem less_at (L : List Rl) (k j : Nat) (hk : k < L.length) (hj : j < (L.take k ++ L.drop (k + 1)).length) : ruleN (L.take k ++ L.drop (k + 1)) j = if j < k then ruleN L j else ruleN L (j + 1) := by
  have hl : (L.take k ++ L.drop (k + 1)).length = L.length - 1 := by simp; omega
  rw [ruleN_at _ j hj]
  have htk : (L.take k).length = k := by simp; omega
  by_cases h : j < k
  · rw [if_pos h, List.getElem_append_left (by omega), ruleN_at L j (by omega)]; simp
  · rw [if_neg h, List.getElem_append_right (by omega), ruleN_at L (j + 1) (by omega)]
    simp only [List.getElem_drop, htk]
    congr 1
    omega
/-- one that does not fit. -/
theorem first_miss {L : List Rl} {ta tn : Int} {A : At} {k : Nat} (x : Int) (h0 : (rulesC L).1 = 0) (hk : k < L.length) (hf : fitsB (ruleN L k) ta tn A = false) (hn : L.length ≠ 1) :
    appC (L.take k ++ L.drop (k + 1)) x ta tn A = appC L x ta tn A ∧ appB (L.take k ++ L.drop (k + 1)) x ta tn A = appB L x ta tn A ∧ appA (L.take k ++ L.drop (k + 1)) x ta tn A = appA L x ta tn A := by
  obtain ⟨hl, ha⟩ := rules_all h0
  have hlen : (L.take k ++ L.drop (k + 1)).length = L.length - 1 := by simp; omega
  have hru := less_at L k
  have hrM : (rulesC (L.take k ++ L.drop (k + 1))).1 = 0 := rules_none (by omega) (fun j hj => by
    rw [hru j hk hj]
    split
    · exact ha j (by omega)
    · exact ha (j + 1) (by omega))
  have hKL := fitK_le L ta tn A
  have hne : fitK L ta tn A ≠ k := fun e => by
    have := fitK_at (L := L) (ta := ta) (tn := tn) (A := A) (by omega)
    rw [e, hf] at this
    cases this
  obtain ⟨K, hKe⟩ : ∃ K, fitK L ta tn A = K := ⟨_, rfl⟩
  rw [hKe] at hKL hne
  have hb : ∀ j, j < K → fitsB (ruleN L j) ta tn A = false := fun j hj => fitK_before (by omega)
  have hat : K < L.length → fitsB (ruleN L K) ta tn A = true := fun h => by rw [← hKe]; exact fitK_at (by omega)
  rcases Nat.lt_or_ge K k with hlt | hge
  · have hKM : fitK (L.take k ++ L.drop (k + 1)) ta tn A = K := fitK_is (by omega) (fun j hj => by rw [hru j hk (by omega), if_pos (by omega)]; exact hb j hj) (fun h => by rw [hru K hk h, if_pos hlt]; exact hat (by omega))
    have hrr : ruleN (L.take k ++ L.drop (k + 1)) K = ruleN L K := by rw [hru K hk (by omega), if_pos hlt]
    refine app_same x (by rw [allC_of h0, allC_of hrM]) (by omega) (by omega) ?_ (fun _ => by rw [hKM, hKe, hrr])
    unfold goB
    rw [hKM, hKe, hrr, hlen, decide_eq_true (by omega), decide_eq_true (by omega)]
  · have hKM : fitK (L.take k ++ L.drop (k + 1)) ta tn A = K - 1 := fitK_is (by omega) (fun j hj => by
      rw [hru j hk (by omega)]
      split
      · exact hb j (by omega)
      · exact hb (j + 1) (by omega)) (fun h => by rw [hru (K - 1) hk h, if_neg (by omega), show K - 1 + 1 = K by omega]; exact hat (by omega))
    by_cases hKl : K < L.length
    · have hrr : ruleN (L.take k ++ L.drop (k + 1)) (K - 1) = ruleN L K := by rw [hru (K - 1) hk (by omega), if_neg (by omega), show K - 1 + 1 = K by omega]
      refine app_same x (by rw [allC_of h0, allC_of hrM]) (by omega) (by omega) ?_ (fun _ => by rw [hKM, hKe, hrr])
      unfold goB
      rw [hKM, hKe, hrr, hlen, decide_eq_true (by omega), decide_eq_true (by omega)]
    · have hgl : goB L ta tn A = false := by unfold goB; rw [hKe, decide_eq_false hKl]; rfl
      refine app_same x (by rw [allC_of h0, allC_of hrM]) (by omega) (by omega) ?_ (fun h => by rw [hgl] at h; cases h)
      rw [hgl]
      unfold goB
      rw [hKM, hlen, decide_eq_false (by omega)]
      rfl
/-- the one rule alone, that does not fit. -/
theorem first_one {L : List Rl} {ta tn : Int} {A : At} {k : Nat} (x : Int) (hk : k < L.length) (hf : fitsB (ruleN L k) ta tn A = false) (hn : L.length = 1) : appB L x ta tn A = false := by
  obtain rfl : k = 0 := by omega
  have hK : fitK L ta tn A = 1 := fitK_is (by omega) (fun j hj => by
    have : j = 0 := by omega
    subst this
    exact hf) (fun h => by omega)
  have hg : goB L ta tn A = false := by unfold goB; rw [hK, hn]; rfl
  unfold appB
  rw [hg]
  simp [hn]
/-- a last one, for all. -/
def ruleZ : Rl := ⟨0, 0, 0, 32, 0, 0, false, -1, -1, 0, 0⟩
theorem ruleZ_right : chkR ruleZ = 0 := by kernel_rfl
theorem snoc_at (L : List Rl) (j : Nat) (hj : j < L.length) : ruleN (L ++ [ruleZ]) j = ruleN L j := by
  rw [ruleN_at _ j (by simp; omega), ruleN_at L j hj, List.getElem_append_left hj]
theorem snoc_end (L : List Rl) : ruleN (L ++ [ruleZ]) L.length = ruleZ := by
  rw [ruleN_at _ _ (by simp)]
  simp
theorem ruleZ_fits {ta tn : Int} (h : chkC ta tn = 0) (A : At) : fitsB ruleZ ta tn A = true := by
  have hrt : rt ta tn = true := by
    unfold chkC at h
    by_cases a : isA ta = true ∧ isL tn = true
    · rw [if_pos a] at h
      by_cases b : ta % pw tn = 0
      · exact (rt_iff ta tn).2 ⟨(isA_iff ta).1 a.1, (isL_iff tn).1 a.2, b⟩
      · rw [if_neg b] at h; omega
    · rw [if_neg a] at h; omega
  have hl := rt_len hrt
  have ha := (isA_iff ta).1 (rt_isA hrt)
  have h0 : rt 0 0 = true := by kernel_rfl
  have hd : (0 : Int) / pw 0 = ta / pw 0 := by
    have hp : pw 0 = 4294967296 := by kernel_rfl
    rw [hp]
    omega
  have e1 : inB ta tn 0 0 = true := by
    unfold inB
    rw [hrt, h0, decide_eq_true hl.1, hd]
    simp
  have e2 : inB3 tn 0 32 = true := by
    unfold inB3
    rw [decide_eq_true hl.1, decide_eq_true hl.2]
    rfl
  show (inB ta tn 0 0 && inB3 tn 0 32 && (((0 : Int) == 0) || A.tags.contains 0) && (((0 : Int) == 0) || A.path.contains 0)) = true
  rw [e1, e2]
  rfl
theorem ruleZ_made (x : Int) (A : At) : madeC ruleZ x A = (leadC A x 0).toNat ∧ madeA ruleZ x A = A := by
  have h1 : setA ruleZ A = A := rfl
  have h2 : midA ruleZ A = A := by unfold midA; rw [if_pos (show ruleZ.add = 0 from rfl), h1]
  have h3 : midC ruleZ A = 0 := by unfold midC; rw [if_pos (show ruleZ.add = 0 from rfl)]
  refine ⟨?_, ?_⟩
  · unfold madeC
    rw [h3, if_neg (by omega), h2]
    rfl
  · unfold madeA
    rw [h2]
    rfl
/-- with one more for all: where something was told on, the same; else nothing, or what came in. -/
theorem first_snoc {L : List Rl} {ta tn : Int} {A : At} (x : Int) (h0 : (rulesC L).1 = 0) (hn : L.length ≠ 0) (hl9 : L.length ≤ 9) :
    (appB L x ta tn A = true → (appC L x ta tn A).1 = 0 ∧ appB (L ++ [ruleZ]) x ta tn A = true ∧ (appC (L ++ [ruleZ]) x ta tn A).1 = 0 ∧ appA (L ++ [ruleZ]) x ta tn A = appA L x ta tn A) ∧
    (appB L x ta tn A = false → 0 < (appC (L ++ [ruleZ]) x ta tn A).1 ∨ appB (L ++ [ruleZ]) x ta tn A = false ∨ appA (L ++ [ruleZ]) x ta tn A = A) := by
  obtain ⟨hl, ha⟩ := rules_all h0
  have hlen : (L ++ [ruleZ]).length = L.length + 1 := by simp
  have hrM : (rulesC (L ++ [ruleZ])).1 = 0 := rules_none (by omega) (fun j hj => by
    by_cases h : j < L.length
    · rw [snoc_at L j h]; exact ha j h
    · obtain rfl : j = L.length := by omega
      rw [snoc_end]; exact ruleZ_right)
  have hall : allC (L ++ [ruleZ]) ta tn A = allC L ta tn A := by rw [allC_of h0, allC_of hrM]
  by_cases hK : fitK L ta tn A < L.length
  · have hKM : fitK (L ++ [ruleZ]) ta tn A = fitK L ta tn A := fitK_is (by omega) (fun j hj => by rw [snoc_at L j (by omega)]; exact fitK_before hj) (fun _ => by rw [snoc_at L _ hK]; exact fitK_at hK)
    have hs := app_same (L := L) (M := L ++ [ruleZ]) (ta := ta) (tn := tn) (A := A) x hall hn (by omega) (by
      unfold goB
      rw [hKM, snoc_at L _ hK, hlen, decide_eq_true (by omega), decide_eq_true hK]) (fun _ => by rw [hKM, snoc_at L _ hK])
    rw [hs.1, hs.2.1, hs.2.2]
    refine ⟨fun hb => ?_, fun hb => .inr (.inl hb)⟩
    have hc : (appC L x ta tn A).1 = 0 := by
      unfold appB at hb
      unfold appC
      by_cases a : 0 < (allC L ta tn A).1
      · rw [if_pos a] at hb; cases hb
      · rw [if_neg a, if_neg hn] at hb
        rw [if_neg a]
        by_cases g : goB L ta tn A = true
        · rw [if_pos g] at hb ⊢; exact of_decide_eq_true hb
        · rw [if_neg g] at hb; cases hb
    exact ⟨hc, hb, hc, rfl⟩
  · have hKl : fitK L ta tn A = L.length := by have := fitK_le L ta tn A; omega
    have hgl : goB L ta tn A = false := by unfold goB; rw [decide_eq_false hK]; rfl
    have hbl : appB L x ta tn A = false := by unfold appB; rw [hgl]; simp [hn]
    refine ⟨fun h => absurd (hbl.symm.trans h) (by decide), fun _ => ?_⟩
    by_cases a : 0 < (allC L ta tn A).1
    · left
      unfold appC
      rw [hall, if_pos a]
      exact a
    · have hck : chkC ta tn = 0 := by
        rw [allC_of h0] at a
        by_cases b : 0 < chkC ta tn
        · rw [if_pos b] at a; exact absurd b a
        · omega
      have hKM : fitK (L ++ [ruleZ]) ta tn A = L.length := fitK_is (by omega) (fun j hj => by rw [snoc_at L j hj]; exact fitK_before (by omega)) (fun _ => by rw [snoc_end]; exact ruleZ_fits hck A)
      have hgm : goB (L ++ [ruleZ]) ta tn A = true := by unfold goB; rw [hKM, hlen, snoc_end, decide_eq_true (by omega)]; rfl
      obtain ⟨m1, m2⟩ := ruleZ_made x A
      have ec : appC (L ++ [ruleZ]) x ta tn A = (madeC ruleZ x A, -1) := by unfold appC; rw [hall, if_neg a, if_pos hgm, hKM, snoc_end]
      have ea : appA (L ++ [ruleZ]) x ta tn A = if madeC ruleZ x A = 0 then A else noneA := by unfold appA; rw [hall, if_neg a, if_neg (by omega), if_pos hgm, hKM, snoc_end, m2]
      rw [ec, ea]
      by_cases z : madeC ruleZ x A = 0
      · right; right; rw [if_pos z]
      · left; show 0 < madeC ruleZ x A; omega
theorem first_bad {L : List Rl} {ta tn : Int} {A : At} (x : Int) (h : 0 < (rulesC L).1) : 0 < (appC L x ta tn A).1 ∧ appB L x ta tn A = false := by
  have e : allC L ta tn A = rulesC L := by unfold allC; rw [if_pos h]
  unfold appC appB
  rw [e, if_pos h, if_pos h]
  exact ⟨h, rfl⟩
end Go.Proofs.YtnifhaopjhgmnaaDoor

namespace Go.Proofs.YtnifhaopjhgmnaaDoor
open Go.RowKit

/-- two boxes, and what the first Apply answered, at O. -/
def SX (w wr : World) (B O : Nat) (ta tn : Int) (va vx : Array Value) (AM : At) (E : Nat → Addr) (u : Value) (c : Nat) (d : Int) : Prop :=
  TB w wr B ta tn va ∧ wr.heap[O]? = some (.cells vx 27 (0, 0)) ∧ AttrK wr (.agg vx) AM ∧ IsErr wr E u c d
theorem SX.on {w wr w' : World} {B O : Nat} {ta tn : Int} {va vx : Array Value} {AM : At} {E : Nat → Addr} {u : Value} {c : Nat} {d : Int} (h : SX w wr B O ta tn va vx AM E u c d) (hb : Below wr.heap.size wr w') : SX w w' B O ta tn va vx AM E u c d :=
  ⟨h.1.on hb, by rw [hb.block _ (Array.getElem?_eq_some_iff.1 h.2.1).1]; exact h.2.1, h.2.2.1.below hb, h.2.2.2.below hb⟩
theorem SX.lt {w wr : World} {B O : Nat} {ta tn : Int} {va vx : Array Value} {AM : At} {E : Nat → Addr} {u : Value} {c : Nat} {d : Int} (h : SX w wr B O ta tn va vx AM E u c d) : O < wr.heap.size := (Array.getElem?_eq_some_iff.1 h.2.1).1
theorem SX.cells {w wr : World} {B O : Nat} {ta tn : Int} {va : Array Value} {x0 x1 x2 x3 x4 : Value} {AM : At} {E : Nat → Addr} {u : Value} {c : Nat} {d : Int} (h : SX w wr B O ta tn va #[x0, x1, x2, x3, x4] AM E u c d) : wr.cell? ⟨O, 0, none⟩ = some x0 ∧ wr.cell? ⟨O, 1, none⟩ = some x1 ∧ wr.cell? ⟨O, 2, none⟩ = some x2 ∧ wr.cell? ⟨O, 3, none⟩ = some x3 ∧ wr.cell? ⟨O, 4, none⟩ = some x4 := by
  refine ⟨?_, ?_, ?_, ?_, ?_⟩ <;> simp [World.cell?, h.2.1]
theorem sx_new {w w3 : World} {B : Nat} {ta tn : Int} {va vx : Array Value} {AM : At} {E : Nat → Addr} {u : Value} {c : Nat} {d : Int} (h : TB w w3 B ta tn va) (hk : AttrK w3 (.agg vx) AM) (hu : IsErr w3 E u c d) : SX w (w3.alloc (.cells vx 27)) B w3.heap.size ta tn va vx AM E u c d :=
  ⟨h.on (below_alloc _ _), Go.heap_alloc_new _ _, hk.below (below_alloc _ _), hu.below (below_alloc _ _)⟩
theorem set5_first {wr : World} {R : Nat} {x0 x1 x2 x3 x4 : Value} (h : wr.heap[R]? = some (.cells #[x0, x1, x2, x3, x4] 27 (0, 0))) (a b c d e : Value) : (((((wr.setCell ⟨R, 0, none⟩ a).setCell ⟨R, 1, none⟩ b).setCell ⟨R, 2, none⟩ c).setCell ⟨R, 3, none⟩ d).setCell ⟨R, 4, none⟩ e).heap[R]? = some (.cells #[a, b, c, d, e] 27 (0, 0)) := by
  have := set5_at h a b c d e
  rwa [heap_drew] at this

set_option linter.unusedSimpArgs false in
set_option linter.unusedVariables false in
set_option maxRecDepth 100000 in
set_option maxHeartbeats 4000000 in
theorem first_out (p : Option Addr) (L : List Rl) (cp : Nat) (x ta tn n : Int) (v : Value) (A : At) (E : Nat → Addr) (m : Int) (w : World) (hE : RuleEnv w E m) (ha : AttrK w v A) (ho : 9 < L.length ∨ longA A = true ∨ n < 0 ∨ (L.length : Int) ≤ n) :
    Calls Tryd.prog 3 #[.slice p L.length cp, .int .i64 x, .agg #[.int .i64 ta, .int .i64 tn], v, .int .i64 n] w fun r w' => r = .returned (.bool true) ∧ Below w.heap.size w w' := by
  have ha0 := ha
  obtain ⟨p0, cp0, q0, cq0, rfl, -, -, -, -⟩ := ha
  obtain ⟨HRU⟩ : Nonempty (Hid (∀ w', Below w.heap.size w w' → Calls _ _ _ _ _)) := ⟨fun w' hb => ruled_any E m w' (hE.below hb)⟩
  obtain ⟨HLG⟩ : Nonempty (Hid (∀ w', Below w.heap.size w w' → Calls _ _ _ _ _)) := ⟨fun w' hb => rLongAttr_any (.agg #[.slice p0 A.path.length cp0, .int .i64 A.pref, .int .i64 A.med, .int .i64 A.org, .slice q0 A.tags.length cq0]) A w' (ha0.below hb).attr⟩
  obtain ⟨HT⟩ : Nonempty (Hid (TB w _ w.heap.size ta tn #[.slice p0 A.path.length cp0, .int .i64 A.pref, .int .i64 A.med, .int .i64 A.org, .slice q0 A.tags.length cq0])) := ⟨tb_start w ta tn _⟩
  clear hE ha0
  by_cases h9 : 9 < L.length
  · have h9' : decide (9 < (L.length : Int)) = true := decide_eq_true (by omega)
    clear ho h9 HLG
    go_enter Tryd.func3, Tryd.ntmps3
    go_wp2_with fail
    refine (HRU.out _ HT.out.2.2).mono ?_
    rintro e w1 ⟨rfl, hb1⟩
    obtain ⟨HT1⟩ : Nonempty (Hid (TB w w1 w.heap.size ta tn #[.slice p0 A.path.length cp0, .int .i64 A.pref, .int .i64 A.med, .int .i64 A.org, .slice q0 A.tags.length cq0])) := ⟨HT.out.on hb1⟩
    clear hb1
    go_wp2_with fail
    go_ret
    exact ⟨rfl, HT1.out.2.2⟩
  · have h9' : decide (9 < (L.length : Int)) = false := decide_eq_false (by omega)
    cases hlg : longA A with
    | true =>
      simp only [hlg] at HLG
      clear ho h9 hlg
      go_enter Tryd.func3, Tryd.ntmps3
      go_wp2_with fail
      refine (HRU.out _ HT.out.2.2).mono ?_
      rintro e w1 ⟨rfl, hb1⟩
      obtain ⟨HT1⟩ : Nonempty (Hid (TB w w1 w.heap.size ta tn #[.slice p0 A.path.length cp0, .int .i64 A.pref, .int .i64 A.med, .int .i64 A.org, .slice q0 A.tags.length cq0])) := ⟨HT.out.on hb1⟩
      obtain ⟨a0, a1, a2, a3, a4⟩ := HT1.out.arg
      clear hb1 HT
      go_wp2_with fail
      refine (HLG.out w1 HT1.out.2.2).mono ?_
      rintro e w2 ⟨rfl, hb2⟩
      obtain ⟨HT2⟩ : Nonempty (Hid (TB w w2 w.heap.size ta tn #[.slice p0 A.path.length cp0, .int .i64 A.pref, .int .i64 A.med, .int .i64 A.org, .slice q0 A.tags.length cq0])) := ⟨HT1.out.on hb2⟩
      clear hb2 HT1 a0 a1 a2 a3 a4
      go_wp2_with fail
      go_ret
      exact ⟨rfl, HT2.out.2.2⟩
    | false =>
      simp only [hlg] at HLG
      by_cases hneg : n < 0
      · have hneg' : decide (n < 0) = true := decide_eq_true hneg
        clear ho h9 hlg hneg
        go_enter Tryd.func3, Tryd.ntmps3
        go_wp2_with fail
        refine (HRU.out _ HT.out.2.2).mono ?_
        rintro e w1 ⟨rfl, hb1⟩
        obtain ⟨HT1⟩ : Nonempty (Hid (TB w w1 w.heap.size ta tn #[.slice p0 A.path.length cp0, .int .i64 A.pref, .int .i64 A.med, .int .i64 A.org, .slice q0 A.tags.length cq0])) := ⟨HT.out.on hb1⟩
        obtain ⟨a0, a1, a2, a3, a4⟩ := HT1.out.arg
        clear hb1 HT
        go_wp2_with fail
        refine (HLG.out w1 HT1.out.2.2).mono ?_
        rintro e w2 ⟨rfl, hb2⟩
        obtain ⟨HT2⟩ : Nonempty (Hid (TB w w2 w.heap.size ta tn #[.slice p0 A.path.length cp0, .int .i64 A.pref, .int .i64 A.med, .int .i64 A.org, .slice q0 A.tags.length cq0])) := ⟨HT1.out.on hb2⟩
        clear hb2 HT1 a0 a1 a2 a3 a4
        go_wp2_with fail
        go_ret
        exact ⟨rfl, HT2.out.2.2⟩
      · have hneg' : decide (n < 0) = false := decide_eq_false hneg
        have hge' : decide ((L.length : Int) ≤ n) = true := decide_eq_true (by rcases ho with h | h | h | h <;> first | omega | (rw [hlg] at h; cases h))
        clear ho h9 hlg hneg
        go_enter Tryd.func3, Tryd.ntmps3
        go_wp2_with fail
        refine (HRU.out _ HT.out.2.2).mono ?_
        rintro e w1 ⟨rfl, hb1⟩
        obtain ⟨HT1⟩ : Nonempty (Hid (TB w w1 w.heap.size ta tn #[.slice p0 A.path.length cp0, .int .i64 A.pref, .int .i64 A.med, .int .i64 A.org, .slice q0 A.tags.length cq0])) := ⟨HT.out.on hb1⟩
        obtain ⟨a0, a1, a2, a3, a4⟩ := HT1.out.arg
        clear hb1 HT
        go_wp2_with fail
        refine (HLG.out w1 HT1.out.2.2).mono ?_
        rintro e w2 ⟨rfl, hb2⟩
        obtain ⟨HT2⟩ : Nonempty (Hid (TB w w2 w.heap.size ta tn #[.slice p0 A.path.length cp0, .int .i64 A.pref, .int .i64 A.med, .int .i64 A.org, .slice q0 A.tags.length cq0])) := ⟨HT1.out.on hb2⟩
        clear hb2 HT1 a0 a1 a2 a3 a4
        go_wp2_with fail
        go_ret
        exact ⟨rfl, HT2.out.2.2⟩

set_option linter.unusedSimpArgs false in
set_option linter.unusedVariables false in
set_option maxRecDepth 100000 in
set_option maxHeartbeats 8000000 in
theorem first_wrong (p : Option Addr) (L : List Rl) (cp : Nat) (x ta tn : Int) (k : Nat) (v : Value) (A : At) (E : Nat → Addr) (m : Int) (w : World) (hE : RuleEnv w E m) (h : Rules w p L) (hkd : KindR p L.length cp) (hcap : L.length ≤ cp ∧ cp ≤ maxLen) (ha : AttrK w v A) (h9 : L.length ≤ 9) (hlg : longA A = false) (hk : k < L.length)
    (hr : 0 < (rulesC L).1) :
    Calls Tryd.prog 3 #[.slice p L.length cp, .int .i64 x, .agg #[.int .i64 ta, .int .i64 tn], v, .int .i64 (k : Int)] w fun r w' => r = .returned (.bool true) ∧ Below w.heap.size w w' := by
  have ha0 := ha
  have hla : A.path.length ≤ 20 ∧ A.tags.length ≤ 15 := by
    simp only [longA, Bool.or_eq_false_iff, decide_eq_false_iff_not] at hlg
    omega
  obtain ⟨p0, cp0, q0, cq0, rfl, -, -, -, -⟩ := ha
  obtain ⟨HRU⟩ : Nonempty (Hid (∀ w', Below w.heap.size w w' → Calls _ _ _ _ _)) := ⟨fun w' hb => ruled_any E m w' (hE.below hb)⟩
  obtain ⟨HLG⟩ : Nonempty (Hid (∀ w', Below w.heap.size w w' → Calls _ _ _ _ _)) := ⟨fun w' hb => rLongAttr_any (.agg #[.slice p0 A.path.length cp0, .int .i64 A.pref, .int .i64 A.med, .int .i64 A.org, .slice q0 A.tags.length cq0]) A w' (ha0.below hb).attr⟩
  simp only [hlg] at HLG
  obtain ⟨HT⟩ : Nonempty (Hid (TB w _ w.heap.size ta tn #[.slice p0 A.path.length cp0, .int .i64 A.pref, .int .i64 A.med, .int .i64 A.org, .slice q0 A.tags.length cq0])) := ⟨tb_start w ta tn _⟩
  obtain ⟨HAP⟩ : Nonempty (Hid (∀ w', Below w.heap.size w w' → Calls _ _ _ _ _)) := ⟨fun w' hb => apply_any p L cp x ta tn (.agg #[.slice p0 A.path.length cp0, .int .i64 A.pref, .int .i64 A.med, .int .i64 A.org, .slice q0 A.tags.length cq0]) A E m w' (hE.below hb) (h.below hb) (ha0.below hb) (by omega) (by omega) (by omega)⟩
  obtain ⟨HCK⟩ : Nonempty (Hid (∀ w', Below w.heap.size w w' → Calls _ _ _ _ _)) := ⟨fun w' hb => rCheck_any p L cp E m w' (hE.below hb) (h.below hb) (by omega)⟩
  obtain ⟨AM, hAM⟩ : ∃ a, Hid (appA L x ta tn A = a) := ⟨_, show _ = _ from rfl⟩
  obtain ⟨bM, hbM⟩ : ∃ a, Hid (appB L x ta tn A = a) := ⟨_, show _ = _ from rfl⟩
  obtain ⟨cM, hcM⟩ : ∃ a, Hid ((appC L x ta tn A).1 = a) := ⟨_, show _ = _ from rfl⟩
  obtain ⟨dM, hdM⟩ : ∃ a, Hid ((appC L x ta tn A).2 = a) := ⟨_, show _ = _ from rfl⟩
  obtain ⟨cR, hcR⟩ : ∃ a, Hid ((rulesC L).1 = a) := ⟨_, show _ = _ from rfl⟩
  obtain ⟨dR, hdR⟩ : ∃ a, Hid ((rulesC L).2 = a) := ⟨_, show _ = _ from rfl⟩
  simp only [show appA L x ta tn A = AM from hAM.out, show appB L x ta tn A = bM from hbM.out, show (appC L x ta tn A).1 = cM from hcM.out, show (appC L x ta tn A).2 = dM from hdM.out] at HAP
  simp only [show (rulesC L).1 = cR from hcR.out, show (rulesC L).2 = dR from hdR.out] at HCK
  obtain ⟨HZ⟩ : Nonempty (Hid (0 < cR ∧ 0 < cM ∧ bM = false)) := ⟨by
    have := first_bad (ta := ta) (tn := tn) (A := A) x hr
    rw [← hcR.out, ← hcM.out, ← hbM.out]
    exact ⟨hr, this.1, this.2⟩⟩
  have h9' : decide (9 < (L.length : Int)) = false := decide_eq_false (by omega)
  have hneg' : decide ((k : Int) < 0) = false := decide_eq_false (by omega)
  have hge' : decide ((L.length : Int) ≤ (k : Int)) = false := decide_eq_false (by omega)
  have q3 : (k : Int) < L.length := by omega
  obtain ⟨B, hB⟩ : ∃ B, Hid (w.heap.size = B) := ⟨_, show _ = _ from rfl⟩
  clear hE h hkd ha0 hlg hla hr hAM hbM hcM hdM hcR hdR
  go_enter Tryd.func3, Tryd.ntmps3
  go_wp2_with fail
  refine (HRU.out _ HT.out.2.2).mono ?_
  rintro e w1 ⟨rfl, hb1⟩
  obtain ⟨HT1⟩ : Nonempty (Hid (TB w w1 w.heap.size ta tn #[.slice p0 A.path.length cp0, .int .i64 A.pref, .int .i64 A.med, .int .i64 A.org, .slice q0 A.tags.length cq0])) := ⟨HT.out.on hb1⟩
  obtain ⟨a0, a1, a2, a3, a4⟩ := HT1.out.arg
  clear hb1 HT
  go_wp2_with fail
  refine (HLG.out w1 HT1.out.2.2).mono ?_
  rintro e w2 ⟨rfl, hb2⟩
  obtain ⟨HT2⟩ : Nonempty (Hid (TB w w2 w.heap.size ta tn #[.slice p0 A.path.length cp0, .int .i64 A.pref, .int .i64 A.med, .int .i64 A.org, .slice q0 A.tags.length cq0])) := ⟨HT1.out.on hb2⟩
  clear hb2 HT1 a0 a1 a2 a3 a4 HLG HRU
  obtain ⟨a0, a1⟩ := HT2.out.pre
  obtain ⟨b0, b1, b2, b3, b4⟩ := HT2.out.arg
  go_wp2_with fail
  refine (HAP.out w2 HT2.out.2.2).mono ?_
  rintro e w3 ⟨⟨v3, u, rfl, hg3, hu3⟩, hb3⟩
  have hk3 := hg3.attrK
  obtain ⟨p5, cp5, q5, cq5, rfl, -, -, -, -⟩ := hg3.attrK
  obtain ⟨O, hO⟩ : ∃ b, Hid (w3.heap.size = b) := ⟨_, show _ = _ from rfl⟩
  obtain ⟨W4, hW4⟩ : ∃ y, Hid (w3.alloc (.cells #[.slice p5 AM.path.length cp5, .int .i64 AM.pref, .int .i64 AM.med, .int .i64 AM.org, .slice q5 AM.tags.length cq5] 27) = y) := ⟨_, show _ = _ from rfl⟩
  obtain ⟨HS4⟩ : Nonempty (Hid (SX w W4 w.heap.size O ta tn #[.slice p0 A.path.length cp0, .int .i64 A.pref, .int .i64 A.med, .int .i64 A.org, .slice q0 A.tags.length cq0] #[.slice p5 AM.path.length cp5, .int .i64 AM.pref, .int .i64 AM.med, .int .i64 AM.org, .slice q5 AM.tags.length cq5] AM E u cM dM)) := ⟨by rw [← show w3.alloc (.cells #[.slice p5 AM.path.length cp5, .int .i64 AM.pref, .int .i64 AM.med, .int .i64 AM.org, .slice q5 AM.tags.length cq5] 27) = W4 from hW4.out, ← show w3.heap.size = O from hO.out]; exact sx_new (HT2.out.on hb3) hk3 hu3⟩
  clear hb3 hg3 hu3 hk3 HT2 a0 a1 b0 b1 b2 b3 b4 HAP
  go_wp2_with fail
  rw [show w3.alloc (.cells #[.slice p5 AM.path.length cp5, .int .i64 AM.pref, .int .i64 AM.med, .int .i64 AM.org, .slice q5 AM.tags.length cq5] 27) = W4 from hW4.out, show w3.heap.size = O from hO.out]
  clear hW4 hO
  refine (HCK.out W4 HS4.out.1.2.2).mono ?_
  rintro e w5 ⟨⟨u5, rfl, hu5⟩, hb5⟩
  obtain ⟨HS5⟩ : Nonempty (Hid (SX w w5 w.heap.size O ta tn #[.slice p0 A.path.length cp0, .int .i64 A.pref, .int .i64 A.med, .int .i64 A.org, .slice q0 A.tags.length cq0] #[.slice p5 AM.path.length cp5, .int .i64 AM.pref, .int .i64 AM.med, .int .i64 AM.org, .slice q5 AM.tags.length cq5] AM E u cM dM)) := ⟨HS4.out.on hb5⟩
  clear hb5 HCK
  obtain ⟨t5, a5, rfl⟩ : ∃ t a, u5 = .iface t (.pointer (some a)) := by
    rcases isErr_cases hu5 with ⟨h, -⟩ | ⟨-, h⟩
    · have := HZ.out.1; omega
    · exact h
  obtain ⟨t, a, rfl⟩ : ∃ t a, u = .iface t (.pointer (some a)) := by
    rcases isErr_cases HS4.out.2.2.2 with ⟨h, -⟩ | ⟨-, h⟩
    · have := HZ.out.2.1; omega
    · exact h
  obtain rfl : bM = false := HZ.out.2.2
  clear hu5 HS4
  go_wp2_with fail
  go_ret
  exact ⟨rfl, HS5.out.1.2.2⟩
end Go.Proofs.YtnifhaopjhgmnaaDoor
