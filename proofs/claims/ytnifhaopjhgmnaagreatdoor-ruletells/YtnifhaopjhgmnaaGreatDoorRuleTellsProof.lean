/-
  PROVED: herepathlaw2.RuleTells returns true for whatever rules, every int as, every prefix (any two int's), and whatever is told of a route (any two lists of int's, any three int's, whatever memory the lists share): package rule's answers on them (Check, Fits of each rule, Apply) are those of the document's answer. (Where there are more than 15 rules, or Path has more than 20 systems or Tags more than 15, the law itself looks at one closed fact alone.) Each argument reads afterwards as it read before. CONDITIONS: the listed package-level variables (the errors of package api; errors.errorType) read as the program's own initialisers lay them when the call begins: tied to the program's text by the given tie (the card 'Rows.RuleTellsCardSaid').
-/
import Derived.Test.YtnifhaopjhgmnaaGreatDoorCards
import Derived.Test.YtnifhaopjhgmnaaGreatDoorTie
import Derived.Test.YtnifhaopjhgmnaaGreatDoorGD
import Derived.Test.YtnifhaopjhgmnaaGreatDoorLaid
import Derived.Test.YtnifhaopjhgmnaaGreatDoorRuleTells
import Derived.SevenTiedAt
import Derived.ChangeMaps5
namespace Go.Proofs.YtnifhaopjhgmnaaGreatDoor
open Go.ChangeShapes Go.WideShapes Go.ChangeAt Go.RowKit Go.Joins Go.ChangeMaps

/-- What the row's condition gives. -/
theorem rules_env {W : World} (h : laidMetH Tryz.prog Rows.ruleTellsRow.laid W) : ∃ E, RuleEnv W E 0 ∧ ErrsLaid W E := by
  have h' : laidMet Tryz.prog (nine.map (fun x => (x.1, errD x.2)) ++ []) W ∧ handlesMet Tryz.prog [("errors.errorType", Rows.laid_errors_errorType)] W := h
  have het := handle_of h'.2 (List.mem_singleton.2 rfl)
  obtain ⟨a, hL⟩ := errsLaid_of [] h'.1 het
  exact ⟨a, ⟨⟨hL.c0, hL.c1, hL.c6, hL.c7, het⟩, hL.c2⟩, hL⟩
theorem laidMet_layOn {P : Program} {w0 : World} {laid : List (String × DataW Unit)} (args : Array Value) (hf : w0.layFits P laid [] = true) (hi : w0.layIfaces P laid (w0.layVars P laid) = true) :
    laidMet P laid ((w0.layVars P laid).forCall (fun _ _ => 0) ⟨#[], args, []⟩).memory := by
  have e1 : (laid.filter fun x => (laid.map (·.1)).contains x.1) = laid := List.filter_eq_self.2 fun x hx => List.contains_iff_mem.2 (List.mem_map.2 ⟨x, hx, rfl⟩)
  have e2 : (laid.filter fun x => !(laid.map (·.1)).contains x.1) = [] := List.filter_eq_nil_iff.2 fun x hx => by rw [List.contains_iff_mem.2 (List.mem_map.2 ⟨x, hx, rfl⟩)]; simp
  have h : laidMet P laid (w0.layVars P laid) := laidMet_layVars (w0 := w0) (laid.map (·.1)) [] (by rw [e1]) (by rw [e1]; exact hf) (by rw [e1]; exact hi) (by rw [e2]; exact LaidIn.none)
  exact h.of_heap (by simp [World.memory, World.forCall, Input.heap])
set_option maxRecDepth 100000 in
theorem rules_met (os : Os) (args : Array Value) : laidMetH Tryz.prog Rows.ruleTellsRow.laid ((((World.holding Tryz.prog os ⟨#[], #[], []⟩).setCell ⟨9, 0, none⟩ (.iface 112 (.agg #[.pointer (some ⟨10, 33, none⟩)]))).layVars Tryz.prog (Rows.ruleTellsRow.laid.filter fun x => x.2.handleName?.isNone)).forCall (fun _ _ => 0) ⟨#[], args, []⟩).memory :=
  laidMetH_of_parts3 (fuel := 8) (laidMet_layOn args (by kernel_rfl) (by kernel_rfl)) (by kernel_rfl) (by kernel_rfl)

set_option maxRecDepth 100000 in
theorem rules_lifted (os : Os) (started : os.Started) (H : Type) (enc : TypeId × Value → H) :
    ReturnsInHanded {} Tryz.checked os 3 .any (fun w args => (Rows.ruleTellsSpec.pre enc Tryz.prog Tryz.f3 [] false w args ∧ laidMetH Tryz.prog Rows.ruleTellsRow.laid w) ∧ sizedMet enc Tryz.prog Tryz.f3 (OpenSpec.ofChange Rows.ruleTellsSpec) false w args)
      (Rows.ruleTellsSpec.post enc Tryz.prog Tryz.f3 false true false false) := by
  refine returns_shaped (C := Tryz.checked) (X := fun w _ => laidMetH Tryz.prog Rows.ruleTellsRow.laid w) (fun _ _ _ hh h => h.of_heap hh) own' started (by kernel_rfl) Tryz.func3
    (ChangeSpec.witness_shaped (enc := enc) (C := Tryz.checked) (os := os) (X := fun w _ => laidMetH Tryz.prog Rows.ruleTellsRow.laid w) false (((World.holding Tryz.prog os ⟨#[], #[], []⟩).setCell ⟨9, 0, none⟩ (.iface 112 (.agg #[.pointer (some ⟨10, 33, none⟩)]))).layVars Tryz.prog (Rows.ruleTellsRow.laid.filter fun x => x.2.handleName?.isNone)) #[.slice none 0 0, .int .i64 0, .agg #[.int .i64 0, .int .i64 0], .agg #[.slice none 0 0, .int .i64 0, .int .i64 0, .int .i64 0, .slice none 0 0]] 8 (World.layVars_os _ _ _)
      (World.shaped_of_ZipB (by kernel_rfl) (by kernel_rfl)) (by kernel_rfl) (by kernel_rfl) (by kernel_rfl) (rules_met os _)) ?_
  intro W base args ds gs before hval0 hW hL hsh
  have hval : ∀ (j : Nat) t v, Tryz.f3.params[j]? = some t → args[j]? = some v → Value.okWide Tryz.prog W .any base t v := hval0
  have hW' := hW
  obtain ⟨p, q, hA0, hV, rfl, hfz, hnd⟩ := hW
  have hA : DataW.TrodAll enc Tryz.prog W 0 (fun _ => true) true Tryz.f3.params.toList args.toList ds p := hA0
  rw [Tryz.params3] at hA hval
  obtain ⟨v0, vs0, d0, ds0, p0, q0, hargs, rfl, rfl, h0, r0⟩ := trodAll_cons hA
  obtain ⟨v1, vs1, d1, ds1, p1, q1, rfl, rfl, rfl, h1, r1⟩ := trodAll_cons r0
  obtain ⟨v2, vs2, d2, ds2, p2, q2, rfl, rfl, rfl, h2, r2⟩ := trodAll_cons r1
  obtain ⟨v3, vs3, d3, ds3, p3, q3, rfl, rfl, rfl, h3, r3⟩ := trodAll_cons r2
  obtain ⟨rfl, rfl, rfl⟩ := trodAll_nil r3
  obtain rfl : args = #[v0, v1, v2, v3] := by cases args; simp_all
  obtain ⟨rfl, rfl⟩ := trodVars_none hV
  have h0k := h0
  have h3k := h3
  have hlt0 : ∀ x ∈ p0, x.block < W.heap.size := fun x hx => by
    have := hW'.lt x (by simp [hx])
    simpa using this
  have hlt3 : ∀ x ∈ p3, x.block < W.heap.size := fun x hx => by
    have := hW'.lt x (by simp [hx])
    simpa using this
  obtain ⟨q, L, cap, rfl, hR, hK⟩ := open_rules (hval 0 22 v0 rfl rfl) h0
  obtain ⟨x1, rfl, rfl, rfl, wx1⟩ := open_int Tryz.underlying3 (hval 1 3 v1 rfl rfl) h1
  obtain ⟨ta, tn, rfl, rfl, rfl, wa, wn⟩ := open_prefix (hval 2 24 v2 rfl rfl) h2
  obtain ⟨A, hk⟩ := open_attr (hval 3 27 v3 rfl rfl) h3
  obtain ⟨E, hE, hEL⟩ := rules_env hL
  clear hA0 hval0
  have e1 : Rows.ruleTellsSpec.fn H ([d0, .lit (.int .i64 x1), .agg [.lit (.int .i64 ta), .lit (.int .i64 tn)], d3] ++ []) = { results := [.lit (.bool true)], args := [d0, .lit (.int .i64 x1), .agg [.lit (.int .i64 ta), .lit (.int .i64 tn)], d3] } := by simp [Rows.ruleTellsSpec]
  refine (ruleTells_any q L cap x1 ta tn v3 A E 0 W hE hEL hR hK hk).mono fun e W' ⟨he, hb⟩ => ?_
  subst he
  refine ⟨_, rfl, _, _, _, [], p0 ++ ([] ++ ([] ++ p3)), [], hW', ?_, ?_, ?_, hb.frame _, fun h => by cases h⟩
  · rw [e1]; exact trodAll_mk1 (shut_bool Tryz.underlying4 true)
  · rw [e1]
    exact trodAll_cons_mk (Below.trod laidOutF (by kernel_rfl) (of_decide_eq_true (by kernel_rfl)) h0k hb (fun x hx => hlt0 x hx)) (trodAll_cons_mk (shut_int Tryz.underlying3 wx1) (trodAll_cons_mk (shut_prefix wa wn) (trodAll_mk1 (Below.trod laidOutF (by kernel_rfl) (of_decide_eq_true (by kernel_rfl)) h3k hb (fun x hx => hlt3 x hx)))))
  · rw [e1]; rfl

theorem rules_holds : Rows.RuleTellsSaid :=
  OpenClaim.holds_of_wide 3 Tryz.f3 rfl rfl rfl rfl rfl rfl rfl ⟨rfl, rfl, rfl, rfl, rfl⟩ rfl rfl rfl rfl rfl (by kernel_rfl) Tryz.func3 (by kernel_rfl)
    (of_decide_eq_true (by kernel_rfl)) (by unfold Func.isWrapper; rw [if_neg (of_decide_eq_false (by kernel_rfl))]; exact ⟨rfl, rfl⟩)
    (fun os started H enc _ => rules_lifted os started H enc)

theorem rules_card : Rows.RuleTellsCardSaid :=
  Claim7.holds_tied_plain_at .later [] _ _ _ _
    rules_holds (fun _ h => by cases h) (by kernel_rfl) (fun _ h => by cases h) ruleTells_row_tie rfl ⟨rfl, rfl⟩ (by kernel_rfl) rfl
    (fun f fn hf hfn => by
      obtain rfl : f = 3 := Option.some.inj ((show Tryz.prog.funcNamed "herepath/herepathlaw2.RuleTells" = some 3 by kernel_rfl).symm.trans hf) |>.symm
      obtain rfl : fn = Tryz.f3 := (Option.some.inj (Tryz.func3.symm.trans hfn)).symm
      exact ⟨by kernel_rfl, fun j t ht => by
        rw [Tryz.params3] at ht
        have hm : t ∈ [22, 3, 24, 27] := by simpa using Array.mem_of_getElem? ht
        have hall : ([22, 3, 24, 27].all fun u => !Tryz.prog.wantsStandIn u) = true := by kernel_rfl
        exact (show Tryz.prog.wantsStandIn t = false by simpa using List.all_eq_true.1 hall t hm)⟩)
    (by kernel_rfl)
#print axioms rules_card
end Go.Proofs.YtnifhaopjhgmnaaGreatDoor
