/-
  PROVED: herepathlaw1.SetNormal returns true for every two lists of prefixes a, b (whatever int's they hold, whatever memory they share) and every int x: a normal set has what was in the prefixes, no two halves of one, none in another, rising; a set is normal once; what both have and what each has alone make all, each address once. Each argument reads afterwards as it read before. CONDITIONS: the listed package-level variables (ErrBound, ErrShape, ErrNone of package api; two tables of math/bits) read as the program's own initialisers lay them when the call begins: tied to the program's text by the given tie (the card 'Rows.SetNormalCardSaid').
-/
import Derived.Test.YthehpnhjfnenoaaDoorCards
import Derived.Test.YthehpnhjfnenoaaDoorTie
import Derived.Test.YthehpnhjfnenoaaDoorSetRow
import Derived.Test.YthehpnhjfnenoaaDoorNormal
import Derived.SevenTiedAt
namespace Go.Proofs.YthehpnhjfnenoaaDoor
open Go.ChangeShapes Go.WideShapes Go.ChangeAt Go.RowKit Go.Joins

/-- What the row's condition gives. -/
theorem normal_env {W : World} (h : laidMetH Tryd.prog Rows.setNormalRow.laid W) : ∃ et eb es, SetEnv W et eb es := by
  have h0 : laidMet Tryd.prog Rows.setNormalRow.laid W := by rw [MakeChecks.laidMetH_plain _ _ _ (by kernel_rfl)] at h; exact h
  have h1 := laidMet.tail h0
  obtain ⟨eb, es, hE⟩ := two_of [("herepath/api.ErrNone", Rows.laid_herepath_api_ErrNone)] (laidMet.tail h1)
  exact ⟨eb, eb, es, hE, db_of h1⟩

set_option maxRecDepth 100000 in
theorem normal_met (os : Os) (args : Array Value) : laidMetH Tryd.prog Rows.setNormalRow.laid ((World.laidAll Tryd.prog os Rows.setNormalRow.laid).forCall (fun _ _ => 0) ⟨#[], args, []⟩).memory := by
  rw [MakeChecks.laidMetH_plain _ _ _ (by kernel_rfl)]
  exact laidMet_laidAll _ (by kernel_rfl) (by kernel_rfl)

set_option maxRecDepth 100000 in
theorem normal_lifted (os : Os) (started : os.Started) (H : Type) (enc : TypeId × Value → H) :
    ReturnsInHanded {} Tryd.checked os 7 .any (fun w args => (Rows.setNormalSpec.pre enc Tryd.prog Tryd.f7 [] false w args ∧ laidMetH Tryd.prog Rows.setNormalRow.laid w) ∧ sizedMet enc Tryd.prog Tryd.f7 (OpenSpec.ofChange Rows.setNormalSpec) false w args)
      (Rows.setNormalSpec.post enc Tryd.prog Tryd.f7 false true false false) := by
  refine returns_shaped (C := Tryd.checked) (X := fun w _ => laidMetH Tryd.prog Rows.setNormalRow.laid w) (fun _ _ _ hh h => h.of_heap hh) own' started (by kernel_rfl) Tryd.func7
    (ChangeSpec.witness_shaped (enc := enc) (C := Tryd.checked) (os := os) (X := fun w _ => laidMetH Tryd.prog Rows.setNormalRow.laid w) false (World.laidAll Tryd.prog os Rows.setNormalRow.laid) #[.slice none 0 0, .slice none 0 0, .int .i64 0] 8 (World.laidAll_os _ _ _)
      (World.shaped_of_ZipB (by kernel_rfl) (by kernel_rfl)) (by kernel_rfl) (by kernel_rfl) (by kernel_rfl) (normal_met os _)) ?_
  intro W base args ds gs before hval0 hW hL hsh
  have hval : ∀ (j : Nat) t v, Tryd.f7.params[j]? = some t → args[j]? = some v → Value.okWide Tryd.prog W .any base t v := hval0
  have hW' := hW
  obtain ⟨p, q, hA0, hV, rfl, hfz, hnd⟩ := hW
  have hA : DataW.TrodAll enc Tryd.prog W 0 (fun _ => true) true Tryd.f7.params.toList args.toList ds p := hA0
  rw [Tryd.params7] at hA hval
  obtain ⟨v0, v1, v2, d0, d1, d2, p0, p1, p2, rfl, rfl, rfl, h0, h1, h2⟩ := trodAll_three hA
  obtain ⟨rfl, rfl⟩ := trodVars_none hV
  have h0k := h0
  have h1k := h1
  obtain ⟨x, rfl, rfl, rfl, wx⟩ := open_int Tryd.underlying3 (hval 2 3 v2 rfl rfl) h2
  have hlt : ∀ x ∈ p0 ++ p1, x.block < W.heap.size := fun x hx => by
    have := hW'.lt x (by simpa [List.append_assoc] using hx)
    simpa using this
  obtain ⟨qa, a, ca, rfl, hpa, hka⟩ := open_list (hval 0 60 v0 rfl rfl) h0
  obtain ⟨qb, b, cb, rfl, hpb, -⟩ := open_list (hval 1 60 v1 rfl rfl) h1
  obtain ⟨et, eb, es, hE⟩ := normal_env hL
  clear hA0 hval0
  have e1 : Rows.setNormalSpec.fn H ([d0, d1, .lit (.int .i64 x)] ++ []) = { results := [.lit (.bool true)], args := [d0, d1, .lit (.int .i64 x)] } := by simp [Rows.setNormalSpec]
  refine (normal_any a b x qa qb ca cb et eb es W hE hpa hpb hka).mono fun e W' ⟨he, hb⟩ => ?_
  subst he
  refine ⟨_, rfl, _, _, _, [], p0 ++ (p1 ++ []), [], hW', ?_, ?_, ?_, hb.frame _, fun h => by cases h⟩
  · rw [e1]; exact trodAll_mk1 (shut_bool Tryd.underlying4 true)
  · rw [e1]
    exact trodAll_mk3 (Below.trod laidOut (by kernel_rfl) (of_decide_eq_true (by kernel_rfl)) h0k hb (fun x hx => hlt x (by simp [hx]))) (Below.trod laidOut (by kernel_rfl) (of_decide_eq_true (by kernel_rfl)) h1k hb (fun x hx => hlt x (by simp [hx]))) (shut_int Tryd.underlying3 wx)
  · rw [e1]; rfl

theorem normal_holds : Rows.SetNormalSaid :=
  OpenClaim.holds_of_wide 7 Tryd.f7 rfl rfl rfl rfl rfl rfl rfl ⟨rfl, rfl, rfl, rfl, rfl⟩ rfl rfl rfl rfl rfl (by kernel_rfl) Tryd.func7 (by kernel_rfl)
    (of_decide_eq_true (by kernel_rfl)) (by unfold Func.isWrapper; rw [if_neg (of_decide_eq_false (by kernel_rfl))]; exact ⟨rfl, rfl⟩)
    (fun os started H enc _ => normal_lifted os started H enc)

theorem normal_card : Rows.SetNormalCardSaid :=
  Claim7.holds_tied_plain_at .later [] _ _ _ _
    normal_holds (fun _ h => by cases h) (by kernel_rfl) (fun _ h => by cases h) setNormal_row_tie rfl ⟨rfl, rfl⟩ (by kernel_rfl) rfl
    (fun f fn hf hfn => by
      obtain rfl : f = 7 := Option.some.inj ((show Tryd.prog.funcNamed "herepath/herepathlaw1.SetNormal" = some 7 by kernel_rfl).symm.trans hf) |>.symm
      obtain rfl : fn = Tryd.f7 := (Option.some.inj (Tryd.func7.symm.trans hfn)).symm
      exact ⟨by kernel_rfl, fun j t ht => by
        rw [Tryd.params7] at ht
        have hm : t ∈ [60, 60, 3] := by simpa using Array.mem_of_getElem? ht
        have hall : ([60, 60, 3].all fun u => !Tryd.prog.wantsStandIn u) = true := by kernel_rfl
        exact (show Tryd.prog.wantsStandIn t = false by simpa using List.all_eq_true.1 hall t hm)⟩)
    (by kernel_rfl)
#print axioms normal_card
end Go.Proofs.YthehpnhjfnenoaaDoor
