/-
  PROVED: herepathlaw1.FibActs returns true for every number most, every list of acts l (whatever texts, int's and lists of entries they hold, whatever memory they share) and every address a: package fib's table and the document's answer each act alike (Put, Drop and Set by the number of the error and its place; Find by the prefix and its hop), hold as many behind each, and hold the same at the end. (Where l has more than 80 acts, or one of them a list of more than 70 entries, the law itself looks at one closed fact alone.) Each argument reads afterwards as it read before. CONDITIONS: the listed package-level variables (errors.errorType and the nine errors of package api) read as the program's own initialisers lay them when the call begins: tied to the program's text by the given tie (the card 'Rows.FibActsCardSaid').
-/
import Derived.Test.YthehpnhjfnenoabDoorCards
import Derived.Test.YthehpnhjfnenoabDoorTie
import Derived.Test.YthehpnhjfnenoabDoorActsEnv
import Derived.Test.YthehpnhjfnenoabDoorLaid
import Derived.Test.YthehpnhjfnenoabDoorFibActs
import Derived.SevenTiedAt
namespace Go.Proofs.YthehpnhjfnenoabDoor
open Go.ChangeShapes Go.WideShapes Go.ChangeAt Go.RowKit Go.Joins

theorem acts_env {W : World} (h : laidMetH Tryd.prog Rows.fibActsRow.laid W) : ∃ E, ErrsLaid W E := by
  have h' : laidMet Tryd.prog (nine.map (fun x => (x.1, errD x.2)) ++ []) W ∧ handlesMet Tryd.prog [("errors.errorType", Rows.laid_errors_errorType)] W := h
  exact errsLaid_of [] h'.1 (handle_of h'.2 (List.mem_singleton.2 rfl))

set_option maxRecDepth 100000 in
theorem acts_met (os : Os) (args : Array Value) : laidMetH Tryd.prog Rows.fibActsRow.laid ((World.doorLaid Tryd.prog 197 os).forCall (fun _ _ => 0) ⟨#[], args, []⟩).memory :=
  laidMetH_of_parts3 (fuel := 8) (laidMet_of_run' 8 (by kernel_rfl) (by kernel_rfl)) (by kernel_rfl) (by kernel_rfl)

set_option maxRecDepth 100000 in
theorem acts_lifted (os : Os) (started : os.Started) (H : Type) (enc : TypeId × Value → H) :
    ReturnsInHanded {} Tryd.checked os 6 .any (fun w args => (Rows.fibActsSpec.pre enc Tryd.prog Tryd.f6 [] false w args ∧ laidMetH Tryd.prog Rows.fibActsRow.laid w) ∧ sizedMet enc Tryd.prog Tryd.f6 (OpenSpec.ofChange Rows.fibActsSpec) false w args)
      (Rows.fibActsSpec.post enc Tryd.prog Tryd.f6 false true false false) := by
  refine returns_shaped (C := Tryd.checked) (X := fun w _ => laidMetH Tryd.prog Rows.fibActsRow.laid w) (fun _ _ _ hh h => h.of_heap hh) own' started (by kernel_rfl) Tryd.func6
    (ChangeSpec.witness_shaped (enc := enc) (C := Tryd.checked) (os := os) (X := fun w _ => laidMetH Tryd.prog Rows.fibActsRow.laid w) false (World.doorLaid Tryd.prog 197 os) #[.int .i64 0, .slice none 0 0, .int .i64 0] 8 rfl
      (World.shaped_of_RefB (by kernel_rfl) (by kernel_rfl)) (by kernel_rfl) (by kernel_rfl) (by kernel_rfl) (acts_met os _)) ?_
  intro W base args ds gs before hval0 hW hL hsh
  have hval : ∀ (j : Nat) t v, Tryd.f6.params[j]? = some t → args[j]? = some v → Value.okWide Tryd.prog W .any base t v := hval0
  have hW' := hW
  obtain ⟨p, q, hA0, hV, rfl, hfz, hnd⟩ := hW
  have hA : DataW.TrodAll enc Tryd.prog W 0 (fun _ => true) true Tryd.f6.params.toList args.toList ds p := hA0
  rw [Tryd.params6] at hA hval
  obtain ⟨v0, v1, v2, d0, d1, d2, p0, p1, p2, rfl, rfl, rfl, h0, h1, h2⟩ := trodAll_three hA
  obtain ⟨rfl, rfl⟩ := trodVars_none hV
  have h1k := h1
  have hlt : ∀ x ∈ p0 ++ p1 ++ p2, x.block < W.heap.size := fun x hx => by
    have := hW'.lt x (by simpa [List.append_assoc] using hx)
    simpa using this
  obtain ⟨x0, rfl, rfl, rfl, wx0⟩ := open_int Tryd.underlying3 (hval 0 3 v0 rfl rfl) h0
  obtain ⟨qa, A, ca, rfl, hpa, hAm⟩ := open_acts (hval 1 51 v1 rfl rfl) h1
  obtain ⟨x2, rfl, rfl, rfl, wx2⟩ := open_int Tryd.underlying3 (hval 2 3 v2 rfl rfl) h2
  obtain ⟨E, hE⟩ := acts_env hL
  clear hA0 hval0
  have e1 : Rows.fibActsSpec.fn H ([.lit (.int .i64 x0), d1, .lit (.int .i64 x2)] ++ []) = { results := [.lit (.bool true)], args := [.lit (.int .i64 x0), d1, .lit (.int .i64 x2)] } := by simp [Rows.fibActsSpec]
  refine (fibActs_any x0 x2 A qa ca E W hpa hE (ng_of hsh) hAm).mono fun e W' ⟨he, hb⟩ => ?_
  subst he
  refine ⟨_, rfl, _, _, _, [], [] ++ (p1 ++ []), [], hW', ?_, ?_, ?_, hb.frame _, fun h => by cases h⟩
  · rw [e1]; exact trodAll_mk1 (shut_bool Tryd.underlying4 true)
  · rw [e1]
    exact trodAll_mk3 (shut_int Tryd.underlying3 wx0) (Below.trod laidOutF (by kernel_rfl) (of_decide_eq_true (by kernel_rfl)) h1k hb (fun x hx => hlt x (by simp [hx]))) (shut_int Tryd.underlying3 wx2)
  · rw [e1]; rfl

theorem acts_holds : Rows.FibActsSaid :=
  OpenClaim.holds_of_wide 6 Tryd.f6 rfl rfl rfl rfl rfl rfl rfl ⟨rfl, rfl, rfl, rfl, rfl⟩ rfl rfl rfl rfl rfl (by kernel_rfl) Tryd.func6 (by kernel_rfl)
    (of_decide_eq_true (by kernel_rfl)) (by unfold Func.isWrapper; rw [if_neg (of_decide_eq_false (by kernel_rfl))]; exact ⟨rfl, rfl⟩)
    (fun os started H enc _ => acts_lifted os started H enc)

theorem acts_card : Rows.FibActsCardSaid :=
  Claim7.holds_tied_plain_at .later [] _ _ _ _
    acts_holds (fun _ h => by cases h) (by kernel_rfl) (fun _ h => by cases h) fibActs_row_tie rfl ⟨rfl, rfl⟩ (by kernel_rfl) rfl
    (fun f fn hf hfn => by
      obtain rfl : f = 6 := Option.some.inj ((show Tryd.prog.funcNamed "herepath/herepathlaw1.FibActs" = some 6 by kernel_rfl).symm.trans hf) |>.symm
      obtain rfl : fn = Tryd.f6 := (Option.some.inj (Tryd.func6.symm.trans hfn)).symm
      exact ⟨by kernel_rfl, fun j t ht => by
        rw [Tryd.params6] at ht
        have hm : t ∈ [3, 51, 3] := by simpa using Array.mem_of_getElem? ht
        have hall : ([3, 51, 3].all fun u => !Tryd.prog.wantsStandIn u) = true := by kernel_rfl
        exact (show Tryd.prog.wantsStandIn t = false by simpa using List.all_eq_true.1 hall t hm)⟩)
    (by kernel_rfl)
#print axioms acts_card
end Go.Proofs.YthehpnhjfnenoabDoor
