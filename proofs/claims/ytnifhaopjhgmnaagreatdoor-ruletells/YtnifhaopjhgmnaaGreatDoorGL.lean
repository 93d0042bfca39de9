/-
  Package rule's Apply in one sentence; OwnRules; the closed fact of the rules' laws (ruled).
  Package rule's Apply and the document's, each in one sentence; what the law RuleTells leans on.
-/
import Derived.Test.YtnifhaopjhgmnaaGreatDoorRuleApply
import Derived.Test.YtnifhaopjhgmnaaGreatDoorRefApp2
import Derived.Test.YtnifhaopjhgmnaaGreatDoorCode
namespace Go.Proofs.YtnifhaopjhgmnaaGreatDoor
open Go.RowKit

theorem apply_any (p : Option Addr) (L : List Rl) (cp : Nat) (x ta tn : Int) (v : Value) (A : At) (E : Nat → Addr) (m : Int) (w : World) (hE : RuleEnv w E m) (h : Rules w p L) (ha : AttrK w v A) (hl : L.length ≤ 1000000) (h1 : A.path.length ≤ 1000) (h2 : A.tags.length ≤ 1000) :
    Calls Tryz.prog 13 #[.slice p L.length cp, .int .i64 x, .agg #[.int .i64 ta, .int .i64 tn], v] w fun r w' => (∃ v' u, r = .returned (.tuple #[v', .bool (appB L x ta tn A), u]) ∧ AttrG w' v' (appA L x ta tn A) w.heap.size ∧ IsErr w' E u (appC L x ta tn A).1 (appC L x ta tn A).2) ∧ Below w.heap.size w w' := by
  by_cases hc : 0 < (allC L ta tn A).1
  · rw [show appB L x ta tn A = false by unfold appB; rw [if_pos hc], show appC L x ta tn A = allC L ta tn A by unfold appC; rw [if_pos hc], show appA L x ta tn A = noneA by unfold appA; rw [if_pos hc]]
    exact apply_bad p L cp x ta tn v A E m w hE h ha hl h1 h2 hc
  · by_cases hn : L.length = 0
    · have hg : goB L ta tn A = false := by unfold goB; rw [decide_eq_false (by omega)]; rfl
      rw [show appB L x ta tn A = true by unfold appB; rw [if_neg hc, if_pos hn], show appC L x ta tn A = (0, -1) by unfold appC; rw [if_neg hc, hg]; rfl, show appA L x ta tn A = A by unfold appA; rw [if_neg hc, if_pos hn]]
      exact apply_none p L cp x ta tn v A E m w hE h ha hl h1 h2 hc hn
    · by_cases hk : fitK L ta tn A < L.length
      · cases hd : (ruleN L (fitK L ta tn A)).deny with
        | true =>
          have hg : goB L ta tn A = false := by unfold goB; rw [hd]; simp
          rw [show appB L x ta tn A = false by unfold appB; rw [if_neg hc, if_neg hn, hg]; rfl, show appC L x ta tn A = (0, -1) by unfold appC; rw [if_neg hc, hg]; rfl, show appA L x ta tn A = noneA by unfold appA; rw [if_neg hc, if_neg hn, hg]; rfl]
          exact apply_deny p L cp x ta tn v A E m w hE h ha hl h1 h2 hc hn hk hd
        | false =>
          have hg : goB L ta tn A = true := by unfold goB; rw [hd, decide_eq_true hk]; rfl
          rw [show appB L x ta tn A = decide (madeC (ruleN L (fitK L ta tn A)) x A = 0) by unfold appB; rw [if_neg hc, if_neg hn, if_pos hg], show appC L x ta tn A = (madeC (ruleN L (fitK L ta tn A)) x A, -1) by unfold appC; rw [if_neg hc, if_pos hg], show appA L x ta tn A = (if madeC (ruleN L (fitK L ta tn A)) x A = 0 then madeA (ruleN L (fitK L ta tn A)) x A else noneA) by unfold appA; rw [if_neg hc, if_neg hn, if_pos hg]]
          exact apply_made p L cp x ta tn v A E m w hE h ha hl h1 h2 hc hn hk hd
      · have hg : goB L ta tn A = false := by unfold goB; rw [decide_eq_false hk]; rfl
        rw [show appB L x ta tn A = false by unfold appB; rw [if_neg hc, if_neg hn, hg]; rfl, show appC L x ta tn A = (0, -1) by unfold appC; rw [if_neg hc, hg]; rfl, show appA L x ta tn A = noneA by unfold appA; rw [if_neg hc, if_neg hn, hg]; rfl]
        exact apply_miss p L cp x ta tn v A E m w hE h ha hl h1 h2 hc hn hk
theorem ownRules_any (L : List Rl) (p : Option Addr) (c : Nat) (w : World) (hL : Rules w p L) (hk : KindR p L.length c) (hl : L.length ≤ 1000000) :
    Calls Tryz.prog 6 #[.slice p L.length c] w fun e w' => (∃ v, e = .returned v ∧ w'.ownsRow w.heap.size 40 11 v L.length (flatR L)) ∧ Below w.heap.size w w' := by
  obtain ⟨i0, hi, hz0, hz1, hz2⟩ := infoRule
  obtain ⟨O', HO'⟩ : ∃ O', Hid (([] : List Rl) ++ L = O') := ⟨_, show _ = _ from rfl⟩
  have hnil : w.ownsRow w.heap.size 40 11 (.slice none 0 0) ([] : List Rl).length (flatR []) := World.ownsRow_nil _ _ _ _
  obtain ⟨HL⟩ : Nonempty (Hid (Rules w p L ∧ KindR p L.length c)) := ⟨⟨hL, hk⟩⟩
  clear hL hk
  go_enter Tryz.func6, Tryz.ntmps6
  go_wp2_with (at_builtin; refine wp_addAllR rfl _ _ 22 rfl w.heap.size 40 i0 Tryz.underlying22 hi hz0 hz1 hz2 _ [] rfl hnil p L L.length c rfl rfl HL.out.2 HL.out.1 O' HO' (by simp; omega) (Nat.le_refl _) ?_)
  intro v' w1 hown hb
  have hO := HO'.out
  rw [List.nil_append] at hO
  subst hO
  go_wp2
  go_ret
  exact ⟨⟨_, rfl, hown⟩, hb⟩

/-- the closed fact's rules, and what it applies them to. -/
def ruleA : Rl := ⟨256, 24, 0, 32, 0, 0, true, 0, 0, 0, 0⟩
def ruleB : Rl := ⟨0, 0, 0, 32, 0, 0, false, 200, -1, 0, 0⟩
def ruledA : At := ⟨[], 100, 0, 0, []⟩
theorem ruled_one : appB [ruleA, ruleB] 7 300 32 ruledA = false ∧ appC [ruleA, ruleB] 7 300 32 ruledA = (0, -1) := ⟨by kernel_rfl, by kernel_rfl⟩
theorem ruled_two : appB [ruleA, ruleB] 7 600 32 ruledA = true ∧ appC [ruleA, ruleB] 7 600 32 ruledA = (0, -1) ∧ appA [ruleA, ruleB] 7 600 32 ruledA = ⟨[], 200, 0, 0, []⟩ := ⟨by kernel_rfl, by kernel_rfl, by kernel_rfl⟩
theorem ruled_row (w : World) : Rules (w.alloc (.cells #[.int .i64 256, .int .i64 24, .int .i64 0, .int .i64 32, .int .i64 0, .int .i64 0, .bool true, .int .i64 0, .int .i64 0, .int .i64 0, .int .i64 0, .int .i64 0, .int .i64 0, .int .i64 0, .int .i64 32, .int .i64 0, .int .i64 0, .bool false, .int .i64 200, .int .i64 (-1), .int .i64 0, .int .i64 0] 40)) (some ⟨w.heap.size, 0, none⟩) [ruleA, ruleB] := fun i hi => by
  refine ⟨w.heap.size, 0, rfl, fun k v hk => ?_⟩
  have hk11 : k < 11 := by have := (List.getElem?_eq_some_iff.1 hk).1; simpa [encR] using this
  rw [World.cell?_alloc_at _ _ _ _ rfl, Nat.zero_add]
  have := flatR_get [ruleA, ruleB] i k hi hk11
  rw [hk] at this
  simpa [flatR, encR, ruleA, ruleB] using this
theorem ruled_boxed (w : World) : Below w.heap.size w (w.alloc (.cells #[.int .i64 256, .int .i64 24, .int .i64 0, .int .i64 32, .int .i64 0, .int .i64 0, .bool true, .int .i64 0, .int .i64 0, .int .i64 0, .int .i64 0, .int .i64 0, .int .i64 0, .int .i64 0, .int .i64 32, .int .i64 0, .int .i64 0, .bool false, .int .i64 200, .int .i64 (-1), .int .i64 0, .int .i64 0] 40)) ∧ Rules (w.alloc (.cells #[.int .i64 256, .int .i64 24, .int .i64 0, .int .i64 32, .int .i64 0, .int .i64 0, .bool true, .int .i64 0, .int .i64 0, .int .i64 0, .int .i64 0, .int .i64 0, .int .i64 0, .int .i64 0, .int .i64 32, .int .i64 0, .int .i64 0, .bool false, .int .i64 200, .int .i64 (-1), .int .i64 0, .int .i64 0] 40)) (some ⟨w.heap.size, 0, none⟩) [ruleA, ruleB] := ⟨below_alloc _ _, ruled_row w⟩
set_option linter.unusedSimpArgs false in
set_option linter.unusedVariables false in
set_option maxRecDepth 100000 in
set_option maxHeartbeats 4000000 in
theorem ruled_any (E : Nat → Addr) (m : Int) (w : World) (hE : RuleEnv w E m) :
    Calls Tryz.prog 4 #[] w fun r w' => r = .returned (.bool true) ∧ Below w.heap.size w w' := by
  obtain ⟨HO⟩ : Nonempty (Hid (∀ w', Calls _ _ _ _ _)) := ⟨fun w' => own_none w'⟩
  obtain ⟨HA⟩ : Nonempty (Hid (∀ (v : Value) (b : Nat) w', Below w.heap.size w w' → Rules w' (some ⟨b, 0, none⟩) [ruleA, ruleB] → AttrK w' v ruledA → Calls Tryz.prog 13 #[.slice (some ⟨b, 0, none⟩) 2 2, .int .i64 7, .agg #[.int .i64 300, .int .i64 32], v] w' fun r w'' => (∃ (p : Option Addr) (n cp : Nat) (f0 f1 f2 : Int) (q : Option Addr) (k cq : Nat), r = .returned (.tuple #[.agg #[.slice p n cp, .int .i64 f0, .int .i64 f1, .int .i64 f2, .slice q k cq], .bool false, .nilIface])) ∧ Below w'.heap.size w' w'')) := ⟨fun v b w' hb hr hv => by
    refine (apply_any (some ⟨b, 0, none⟩) [ruleA, ruleB] 2 7 300 32 v ruledA E m w' (hE.below hb) hr hv (by decide) (by decide) (by decide)).mono ?_
    rintro r w'' ⟨⟨v', u, rfl, hg, he⟩, hbb⟩
    rw [ruled_one.1, ruled_one.2] at *
    obtain ⟨p, cp, q, cq, rfl, -, -, -, -, -, -⟩ := hg
    rcases isErr_cases he with ⟨-, rfl⟩ | ⟨h0, -⟩
    · exact ⟨⟨p, _, cp, _, _, _, q, _, cq, rfl⟩, hbb⟩
    · exact absurd h0 (by decide)⟩
  obtain ⟨HB⟩ : Nonempty (Hid (∀ (v : Value) (b : Nat) w', Below w.heap.size w w' → Rules w' (some ⟨b, 0, none⟩) [ruleA, ruleB] → AttrK w' v ruledA → Calls Tryz.prog 13 #[.slice (some ⟨b, 0, none⟩) 2 2, .int .i64 7, .agg #[.int .i64 600, .int .i64 32], v] w' fun r w'' => (∃ p cp q cq, r = .returned (.tuple #[.agg #[.slice p 0 cp, .int .i64 200, .int .i64 0, .int .i64 0, .slice q 0 cq], .bool true, .nilIface])) ∧ Below w'.heap.size w' w'')) := ⟨fun v b w' hb hr hv => by
    refine (apply_any (some ⟨b, 0, none⟩) [ruleA, ruleB] 2 7 600 32 v ruledA E m w' (hE.below hb) hr hv (by decide) (by decide) (by decide)).mono ?_
    rintro r w'' ⟨⟨v', u, rfl, hg, he⟩, hbb⟩
    rw [ruled_two.2.2] at hg
    rw [ruled_two.2.1] at he
    rw [ruled_two.1]
    obtain ⟨p, cp, q, cq, rfl, -, -, -, -, -, -⟩ := hg
    rcases isErr_cases he with ⟨-, rfl⟩ | ⟨h0, -⟩
    · exact ⟨⟨p, cp, q, cq, rfl⟩, hbb⟩
    · exact absurd h0 (by decide)⟩
  obtain ⟨HR⟩ : Nonempty (Hid (Below w.heap.size w _ ∧ Rules _ (some ⟨w.heap.size, 0, none⟩) [ruleA, ruleB])) := ⟨ruled_boxed w⟩
  clear hE
  go_enter Tryz.func4, Tryz.ntmps4
  go_wp2_with fail
  refine (HO.out _).mono ?_
  rintro e w1 ⟨⟨v1, rfl, hv1⟩, hb1⟩
  obtain ⟨HR1⟩ : Nonempty (Hid (Below w.heap.size w w1 ∧ Rules w1 (some ⟨w.heap.size, 0, none⟩) [ruleA, ruleB] ∧ AttrK w1 v1 ruledA)) := ⟨⟨HR.out.1.trans (hb1.mono HR.out.1.size), HR.out.2.below hb1, hv1⟩⟩
  clear hb1 hv1 HR
  go_wp2_with fail
  refine (HA.out v1 _ w1 HR1.out.1 HR1.out.2.1 HR1.out.2.2).mono ?_
  rintro e w2 ⟨⟨p2, n2, cp2, f0, f1, f2, q2, k2, cq2, rfl⟩, hb2⟩
  obtain ⟨HR2⟩ : Nonempty (Hid (Below w.heap.size w w2 ∧ Rules w2 (some ⟨w.heap.size, 0, none⟩) [ruleA, ruleB])) := ⟨⟨HR1.out.1.trans (hb2.mono HR1.out.1.size), HR1.out.2.1.below hb2⟩⟩
  clear hb2 HR1
  go_wp2_with fail
  refine (HO.out _).mono ?_
  rintro e w3 ⟨⟨v3, rfl, hv3⟩, hb3⟩
  obtain ⟨HR3⟩ : Nonempty (Hid (Below w.heap.size w w3 ∧ Rules w3 (some ⟨w.heap.size, 0, none⟩) [ruleA, ruleB] ∧ AttrK w3 v3 ruledA)) := ⟨⟨(HR2.out.1.alloc HR2.out.1.size _).trans (hb3.mono (Nat.le_trans HR2.out.1.size (below_alloc _ _).size)), (HR2.out.2.below (below_alloc _ _)).below hb3, hv3⟩⟩
  clear hb3 hv3 HR2
  go_wp2_with fail
  refine (HB.out v3 _ w3 HR3.out.1 HR3.out.2.1 HR3.out.2.2).mono ?_
  rintro e w4 ⟨⟨p4, cp4, q4, cq4, rfl⟩, hb4⟩
  obtain ⟨HR4⟩ : Nonempty (Hid (Below w.heap.size w w4)) := ⟨HR3.out.1.trans (hb4.mono HR3.out.1.size)⟩
  clear hb4 HR3
  go_wp2_with fail
  go_ret
  exact ⟨rfl, HR4.out.alloc HR4.out.size _⟩
end Go.Proofs.YtnifhaopjhgmnaaGreatDoor

namespace Go.Proofs.YtnifhaopjhgmnaaGreatDoor
open Go.RowKit

theorem rApply_any (p : Option Addr) (L : List Rl) (cp : Nat) (x ta tn : Int) (v : Value) (A : At) (w : World) (h : Rules w p L) (ha : AttrK w v A) (hl : L.length ≤ 1000000) (h1 : A.path.length ≤ 1000) (h2 : A.tags.length ≤ 1000) :
    Calls Tryz.prog 14 #[.slice p L.length cp, .int .i64 x, .agg #[.int .i64 ta, .int .i64 tn], v] w fun r w' => (∃ v', r = .returned (.tuple #[v', .bool (appB L x ta tn A), .agg #[.int .i64 ((appC L x ta tn A).1 : Nat), .int .i64 (appC L x ta tn A).2]]) ∧ AttrK w' v' (appA L x ta tn A)) ∧ Below w.heap.size w w' := by
  by_cases hc : 0 < (allC L ta tn A).1
  · rw [show appB L x ta tn A = false by unfold appB; rw [if_pos hc], show appC L x ta tn A = allC L ta tn A by unfold appC; rw [if_pos hc], show appA L x ta tn A = noneA by unfold appA; rw [if_pos hc]]
    exact rApply_bad p L cp x ta tn v A w h ha hl h1 h2 hc
  · by_cases hn : L.length = 0
    · have hg : goB L ta tn A = false := by unfold goB; rw [decide_eq_false (by omega)]; rfl
      rw [show appB L x ta tn A = true by unfold appB; rw [if_neg hc, if_pos hn], show appC L x ta tn A = (0, -1) by unfold appC; rw [if_neg hc, hg]; rfl, show appA L x ta tn A = A by unfold appA; rw [if_neg hc, if_pos hn]]
      exact rApply_none p L cp x ta tn v A w h ha hl h1 h2 hc hn
    · have := rApply_run p L cp x ta tn v A w h ha hl h1 h2 hc hn
      rw [show appB L x ta tn A = (if goB L ta tn A = true then decide (madeC (ruleN L (fitK L ta tn A)) x A = 0) else false) by unfold appB; rw [if_neg hc, if_neg hn], show appA L x ta tn A = (if goB L ta tn A = true then (if madeC (ruleN L (fitK L ta tn A)) x A = 0 then madeA (ruleN L (fitK L ta tn A)) x A else noneA) else noneA) by unfold appA; rw [if_neg hc, if_neg hn]]
      have e : appC L x ta tn A = (if goB L ta tn A = true then (madeC (ruleN L (fitK L ta tn A)) x A, -1) else (0, -1)) := by unfold appC; rw [if_neg hc]
      rw [e]
      by_cases hg : goB L ta tn A = true
      · simp only [if_pos hg] at this ⊢
        exact this
      · simp only [if_neg hg] at this ⊢
        exact this
theorem faulted2_ok (v : Value) (f0 f1 : Int) (w : World) (hC : ∀ w', Below w.heap.size w w' → Calls Tryz.prog 17 #[v] w' fun ev w'' => ev = .returned (.tuple #[.int .i64 f0, .int .i64 f1]) ∧ Below w'.heap.size w' w'') :
    Calls Tryz.prog 7 #[v, .agg #[.int .i64 f0, .int .i64 f1]] w fun e w' => e = .returned (.bool true) ∧ Below w.heap.size w w' := by
  have hba := below_alloc w (.cells #[.int .i64 f0, .int .i64 f1] 36)
  obtain ⟨c0, c1⟩ := box_at w (.int .i64 f0) (.int .i64 f1) 36
  obtain ⟨HN⟩ : Nonempty (Hid (Calls _ _ _ _ _)) := ⟨hC _ hba⟩
  clear hC
  go_enter Tryz.func7, Tryz.ntmps7
  go_wp2_with fail
  refine HN.out.mono ?_
  clear HN
  rintro e w1 ⟨rfl, hb1⟩
  have hb := hba.trans (hb1.mono hba.size)
  have d0 := cell_kept hb1 c0
  have d1 := cell_kept hb1 c1
  have e0 : (f0 == f0) = true := by simp
  have e1 : (f1 == f1) = true := by simp
  clear hb1 c0 c1
  cases hz : (f0 == 0)
  all_goals
    go_wp2
    go_ret
    exact ⟨rfl, hb⟩
theorem faulted2_err {w : World} {E : Nat → Addr} {v : Value} {c : Nat} {d : Int} (h : IsErr w E v c d) (hc : c ≤ 9) (hL : ErrsLaid w E) :
    Calls Tryz.prog 7 #[v, .agg #[.int .i64 (c : Int), .int .i64 d]] w fun e w' => e = .returned (.bool true) ∧ Below w.heap.size w w' := by
  refine faulted2_ok v c d w fun w' hb => ?_
  have hL' := hL.below hb
  rcases h.below hb with ⟨rfl, rfl⟩ | ⟨h0, hp, b, rfl, c0, c1⟩
  · cases c with
    | zero => exact (code_nil w').mono fun _ _ ⟨he, hw⟩ => ⟨he, by rw [hw]; exact Below.refl _ _⟩
    | succ k =>
      have := code_plain (E k) k E w' hL' (by omega) (hL'.row k (by omega)) (fun i hi => hL'.apart k i (by omega) (by omega) (by omega)) (fun _ => rfl)
      rw [if_pos (by omega)] at this
      exact this.mono fun e w2 ⟨he, hw⟩ => ⟨by rw [he]; simp, hw⟩
  · cases c with
    | zero => omega
    | succ k =>
      have := code_fault b d (E k) k E w' hL' (by omega) (hL'.row k (by omega)) c0 c1 (fun i hi => hL'.apart k i (by omega) (by omega) (by omega)) (fun _ => rfl)
      rw [if_pos (by omega)] at this
      exact this.mono fun e w2 ⟨he, hw⟩ => ⟨by rw [he]; simp, hw⟩
theorem chkR_le (r : Rl) : chkR r ≤ 9 := by
  have := chkC_le r.wa r.wn
  unfold chkR
  split
  · omega
  · split <;> omega
theorem firstQ_le {q : Nat → Nat} {m : Nat} (hq : ∀ k, q k ≤ m) (n : Nat) : (firstQ q n).1 ≤ m := by
  unfold firstQ
  split
  · exact hq _
  · exact Nat.zero_le _
theorem rulesC_le (L : List Rl) : (rulesC L).1 ≤ 9 := by
  unfold rulesC
  split
  · decide
  · exact firstQ_le (fun k => chkR_le _) _
theorem fault_le (A : At) : (faultA A).1 ≤ 9 := by
  unfold faultA
  (repeat' split) <;> simp
theorem tagC_le (A : At) (x : Int) : tagC A x ≤ 9 := by
  have := fault_le A
  unfold tagC
  (repeat' split) <;> omega
theorem leadC_le (A : At) (x n : Int) : leadC A x n ≤ 9 := by
  have := fault_le A
  unfold leadC
  (repeat' split) <;> omega
theorem madeC_le (r : Rl) (x : Int) (A : At) : madeC r x A ≤ 9 := by
  have h1 := leadC_le (midA r A) x r.lead
  have h2 := tagC_le (setA r A) r.add
  unfold madeC midC
  (repeat' split) <;> omega
theorem appC_le (L : List Rl) (x ta tn : Int) (A : At) : (appC L x ta tn A).1 ≤ 9 := by
  have h1 := rulesC_le L
  have h2 := chkC_le ta tn
  have h3 := fault_le A
  have h4 := madeC_le (ruleN L (fitK L ta tn A)) x A
  unfold appC allC
  (repeat' split) <;> first | omega | (simp; omega) | simp
end Go.Proofs.YtnifhaopjhgmnaaGreatDoor
