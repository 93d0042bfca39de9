/-
  PROVED: herepathlaw1.SetTells returns true for every two lists of prefixes a, b (whatever int's they hold, whatever memory they share) and every int x: package set's answers on them (Norm, Count, Has, Or, And, Not: the set, or the error of the first wrong prefix with its place) are those of the document's answer, and the copy that the package was handed reads as before; where a list has more than 20 prefixes the law compares nothing but one closed fact. Each argument reads afterwards as it read before. CONDITIONS: the listed package-level variables (the errors of package api; errors.errorType; two tables of math/bits) read as the program's own initialisers lay them when the call begins: tied to the program's text by the given tie (the card 'Rows.SetTellsCardSaid').
-/
import Derived.Test.YthehpnhjfnenoaaGreatDoorCards
import Derived.Test.YthehpnhjfnenoaaGreatDoorTie
import Derived.Test.YthehpnhjfnenoaaGreatDoorSetRow
import Derived.Test.YthehpnhjfnenoaaGreatDoorLaid
import Derived.Test.YthehpnhjfnenoaaGreatDoorTellsSet
import Derived.SevenTiedAt
import Derived.ChangeMaps5
namespace Go.Proofs.YthehpnhjfnenoaaGreatDoor
open Go.ChangeShapes Go.WideShapes Go.ChangeAt Go.RowKit Go.Joins Go.ChangeMaps

/-- What the row's condition gives. -/
theorem tellsSet_env {W : World} (h : laidMetH Tryz.prog Rows.setTellsRow.laid W) : ∃ e, SetEnv W (e 0) (e 1) (e 2) ∧ ErrsLaid W e := by
  have h' : laidMet Tryz.prog (("math/bits.deBruijn32tab", Rows.laid_math_bits_deBruijn32tab) :: ("math/bits.deBruijn64tab", Rows.laid_math_bits_deBruijn64tab) :: (nine.map (fun x => (x.1, errD x.2)) ++ [])) W ∧ handlesMet Tryz.prog [("errors.errorType", Rows.laid_errors_errorType)] W := h
  have h1 := laidMet.tail h'.1
  obtain ⟨e, hL⟩ := errsLaid_of [] (laidMet.tail h1) (handle_of h'.2 (List.mem_singleton.2 rfl))
  exact ⟨e, ⟨⟨rfl, hL.c1, hL.c2⟩, db_of h1⟩, hL⟩

theorem laidMet_layOn {P : Program} {w0 : World} {laid : List (String × DataW Unit)} (args : Array Value) (hf : w0.layFits P laid [] = true) (hi : w0.layIfaces P laid (w0.layVars P laid) = true) :
    laidMet P laid ((w0.layVars P laid).forCall (fun _ _ => 0) ⟨#[], args, []⟩).memory := by
  have e1 : (laid.filter fun x => (laid.map (·.1)).contains x.1) = laid := List.filter_eq_self.2 fun x hx => List.contains_iff_mem.2 (List.mem_map.2 ⟨x, hx, rfl⟩)
  have e2 : (laid.filter fun x => !(laid.map (·.1)).contains x.1) = [] := List.filter_eq_nil_iff.2 fun x hx => by rw [List.contains_iff_mem.2 (List.mem_map.2 ⟨x, hx, rfl⟩)]; simp
  have h : laidMet P laid (w0.layVars P laid) := laidMet_layVars (w0 := w0) (laid.map (·.1)) [] (by rw [e1]) (by rw [e1]; exact hf) (by rw [e1]; exact hi) (by rw [e2]; exact LaidIn.none)
  exact h.of_heap (by simp [World.memory, World.forCall, Input.heap])
set_option maxRecDepth 100000 in
theorem tellsSet_met (os : Os) (args : Array Value) : laidMetH Tryz.prog Rows.setTellsRow.laid ((((World.holding Tryz.prog os ⟨#[], #[], []⟩).setCell ⟨9, 0, none⟩ (.iface 115 (.agg #[.pointer (some ⟨12, 26, none⟩)]))).layVars Tryz.prog (Rows.setTellsRow.laid.filter fun x => x.2.handleName?.isNone)).forCall (fun _ _ => 0) ⟨#[], args, []⟩).memory :=
  laidMetH_of_parts3 (fuel := 8) (laidMet_layOn args (by kernel_rfl) (by kernel_rfl)) (by kernel_rfl) (by kernel_rfl)

set_option maxRecDepth 100000 in
theorem tellsSet_lifted (os : Os) (started : os.Started) (H : Type) (enc : TypeId × Value → H) :
    ReturnsInHanded {} Tryz.checked os 3 .any (fun w args => (Rows.setTellsSpec.pre enc Tryz.prog Tryz.f3 [] false w args ∧ laidMetH Tryz.prog Rows.setTellsRow.laid w) ∧ sizedMet enc Tryz.prog Tryz.f3 (OpenSpec.ofChange Rows.setTellsSpec) false w args)
      (Rows.setTellsSpec.post enc Tryz.prog Tryz.f3 false true false false) := by
  refine returns_shaped (C := Tryz.checked) (X := fun w _ => laidMetH Tryz.prog Rows.setTellsRow.laid w) (fun _ _ _ hh h => h.of_heap hh) own' started (by kernel_rfl) Tryz.func3
    (ChangeSpec.witness_shaped (enc := enc) (C := Tryz.checked) (os := os) (X := fun w _ => laidMetH Tryz.prog Rows.setTellsRow.laid w) false (((World.holding Tryz.prog os ⟨#[], #[], []⟩).setCell ⟨9, 0, none⟩ (.iface 115 (.agg #[.pointer (some ⟨12, 26, none⟩)]))).layVars Tryz.prog (Rows.setTellsRow.laid.filter fun x => x.2.handleName?.isNone)) #[.slice none 0 0, .slice none 0 0, .int .i64 0] 8 (World.layVars_os _ _ _)
      (World.shaped_of_ZipB (by kernel_rfl) (by kernel_rfl)) (by kernel_rfl) (by kernel_rfl) (by kernel_rfl) (tellsSet_met os _)) ?_
  intro W base args ds gs before hval0 hW hL hsh
  have hval : ∀ (j : Nat) t v, Tryz.f3.params[j]? = some t → args[j]? = some v → Value.okWide Tryz.prog W .any base t v := hval0
  have hW' := hW
  obtain ⟨p, q, hA0, hV, rfl, hfz, hnd⟩ := hW
  have hA : DataW.TrodAll enc Tryz.prog W 0 (fun _ => true) true Tryz.f3.params.toList args.toList ds p := hA0
  rw [Tryz.params3] at hA hval
  obtain ⟨v0, v1, v2, d0, d1, d2, p0, p1, p2, rfl, rfl, rfl, h0, h1, h2⟩ := trodAll_three hA
  obtain ⟨rfl, rfl⟩ := trodVars_none hV
  have h0k := h0
  have h1k := h1
  obtain ⟨x, rfl, rfl, rfl, wx⟩ := open_int Tryz.underlying3 (hval 2 3 v2 rfl rfl) h2
  have hlt : ∀ x ∈ p0 ++ p1, x.block < W.heap.size := fun x hx => by
    have := hW'.lt x (by simpa [List.append_assoc] using hx)
    simpa using this
  obtain ⟨qa, a, ca, rfl, hpa, hka⟩ := open_list (hval 0 22 v0 rfl rfl) h0
  obtain ⟨qb, b, cb, rfl, hpb, hkb⟩ := open_list (hval 1 22 v1 rfl rfl) h1
  obtain ⟨e, hE, hErr⟩ := tellsSet_env hL
  clear hA0 hval0
  have e1 : Rows.setTellsSpec.fn H ([d0, d1, .lit (.int .i64 x)] ++ []) = { results := [.lit (.bool true)], args := [d0, d1, .lit (.int .i64 x)] } := by simp [Rows.setTellsSpec]
  refine (tellsSet_any a b x qa qb ca cb e W hE hErr hpa hpb hka hkb).mono fun r W' ⟨he, hb⟩ => ?_
  subst he
  refine ⟨_, rfl, _, _, _, [], p0 ++ (p1 ++ []), [], hW', ?_, ?_, ?_, hb.frame _, fun h => by cases h⟩
  · rw [e1]; exact trodAll_mk1 (shut_bool Tryz.underlying4 true)
  · rw [e1]
    exact trodAll_mk3 (Below.trod laidOut (by kernel_rfl) (of_decide_eq_true (by kernel_rfl)) h0k hb (fun x hx => hlt x (by simp [hx]))) (Below.trod laidOut (by kernel_rfl) (of_decide_eq_true (by kernel_rfl)) h1k hb (fun x hx => hlt x (by simp [hx]))) (shut_int Tryz.underlying3 wx)
  · rw [e1]; rfl

theorem tellsSet_holds : Rows.SetTellsSaid :=
  OpenClaim.holds_of_wide 3 Tryz.f3 rfl rfl rfl rfl rfl rfl rfl ⟨rfl, rfl, rfl, rfl, rfl⟩ rfl rfl rfl rfl rfl (by kernel_rfl) Tryz.func3 (by kernel_rfl)
    (of_decide_eq_true (by kernel_rfl)) (by unfold Func.isWrapper; rw [if_neg (of_decide_eq_false (by kernel_rfl))]; exact ⟨rfl, rfl⟩)
    (fun os started H enc _ => tellsSet_lifted os started H enc)

theorem tellsSet_card : Rows.SetTellsCardSaid :=
  Claim7.holds_tied_plain_at .later [] _ _ _ _
    tellsSet_holds (fun _ h => by cases h) (by kernel_rfl) (fun _ h => by cases h) setTells_row_tie rfl ⟨rfl, rfl⟩ (by kernel_rfl) rfl
    (fun f fn hf hfn => by
      obtain rfl : f = 3 := Option.some.inj ((show Tryz.prog.funcNamed "herepath/herepathlaw1.SetTells" = some 3 by kernel_rfl).symm.trans hf) |>.symm
      obtain rfl : fn = Tryz.f3 := (Option.some.inj (Tryz.func3.symm.trans hfn)).symm
      exact ⟨by kernel_rfl, fun j t ht => by
        rw [Tryz.params3] at ht
        have hm : t ∈ [22, 22, 3] := by simpa using Array.mem_of_getElem? ht
        have hall : ([22, 22, 3].all fun u => !Tryz.prog.wantsStandIn u) = true := by kernel_rfl
        exact (show Tryz.prog.wantsStandIn t = false by simpa using List.all_eq_true.1 hall t hm)⟩)
    (by kernel_rfl)
#print axioms tellsSet_card
end Go.Proofs.YthehpnhjfnenoaaGreatDoor
