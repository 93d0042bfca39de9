/-
  PROVED: herepathlaw1.FibLongest returns true for every list of entries l (whatever int's they hold, whatever memory they share) and every address a: what is found has the address, is there, and nothing longer has it; what is not found nothing has; all of it, set anew, finds the same; without it something shorter is found, or nothing. (Where l has more than 60 entries, the law itself looks at one closed fact alone.) Each argument reads afterwards as it read before. CONDITIONS: the listed package-level variables (ErrBound, ErrShape, ErrNone, ErrExist, ErrFull of package api) read as the program's own initialisers lay them when the call begins: tied to the program's text by the given tie (the card 'Rows.FibLongestCardSaid').
-/
import Derived.Test.YthehpnhjfnenoabDoorCards
import Derived.Test.YthehpnhjfnenoabDoorTie
import Derived.Test.YthehpnhjfnenoabDoorFibEnv
import Derived.Test.YthehpnhjfnenoabDoorFibLong
import Derived.SevenTiedAt
namespace Go.Proofs.YthehpnhjfnenoabDoor
open Go.ChangeShapes Go.WideShapes Go.ChangeAt Go.RowKit Go.Joins

theorem longest_env {W : World} (h : laidMetH Tryd.prog Rows.fibLongestRow.laid W) : ∃ E, FibErrs W E ∧ ExLaid W E := by
  have h0 : laidMet Tryd.prog Rows.fibLongestRow.laid W := by rw [MakeChecks.laidMetH_plain _ _ _ (by kernel_rfl)] at h; exact h
  exact five_of h0

set_option maxRecDepth 100000 in
theorem longest_met (os : Os) (args : Array Value) : laidMetH Tryd.prog Rows.fibLongestRow.laid ((World.laidAll Tryd.prog os Rows.fibLongestRow.laid).forCall (fun _ _ => 0) ⟨#[], args, []⟩).memory := by
  rw [MakeChecks.laidMetH_plain _ _ _ (by kernel_rfl)]
  exact laidMet_laidAll _ (by kernel_rfl) (by kernel_rfl)

set_option maxRecDepth 100000 in
theorem longest_lifted (os : Os) (started : os.Started) (H : Type) (enc : TypeId × Value → H) :
    ReturnsInHanded {} Tryd.checked os 4 .any (fun w args => (Rows.fibLongestSpec.pre enc Tryd.prog Tryd.f4 [] false w args ∧ laidMetH Tryd.prog Rows.fibLongestRow.laid w) ∧ sizedMet enc Tryd.prog Tryd.f4 (OpenSpec.ofChange Rows.fibLongestSpec) false w args)
      (Rows.fibLongestSpec.post enc Tryd.prog Tryd.f4 false true false false) := by
  refine returns_shaped (C := Tryd.checked) (X := fun w _ => laidMetH Tryd.prog Rows.fibLongestRow.laid w) (fun _ _ _ hh h => h.of_heap hh) own' started (by kernel_rfl) Tryd.func4
    (ChangeSpec.witness_shaped (enc := enc) (C := Tryd.checked) (os := os) (X := fun w _ => laidMetH Tryd.prog Rows.fibLongestRow.laid w) false (World.laidAll Tryd.prog os Rows.fibLongestRow.laid) #[.slice none 0 0, .int .i64 0] 8 (World.laidAll_os _ _ _)
      (World.shaped_of_ZipB (by kernel_rfl) (by kernel_rfl)) (by kernel_rfl) (by kernel_rfl) (by kernel_rfl) (longest_met os _)) ?_
  intro W base args ds gs before hval0 hW hL hsh
  have hval : ∀ (j : Nat) t v, Tryd.f4.params[j]? = some t → args[j]? = some v → Value.okWide Tryd.prog W .any base t v := hval0
  have hW' := hW
  obtain ⟨p, q, hA0, hV, rfl, hfz, hnd⟩ := hW
  have hA : DataW.TrodAll enc Tryd.prog W 0 (fun _ => true) true Tryd.f4.params.toList args.toList ds p := hA0
  rw [Tryd.params4] at hA hval
  obtain ⟨v0, v1, d0, d1, p0, p1, rfl, rfl, rfl, h0, h1⟩ := trodAll_two hA
  obtain ⟨rfl, rfl⟩ := trodVars_none hV
  have h0k := h0
  have hlt : ∀ x ∈ p0 ++ p1, x.block < W.heap.size := fun x hx => by
    have := hW'.lt x (by simpa [List.append_assoc] using hx)
    simpa using this
  obtain ⟨qa, L, ca, rfl, hpa⟩ := open_ents (hval 0 31 v0 rfl rfl) h0
  obtain ⟨x1, rfl, rfl, rfl, wx1⟩ := open_int Tryd.underlying3 (hval 1 3 v1 rfl rfl) h1
  obtain ⟨E, hE, hX⟩ := longest_env hL
  clear hA0 hval0
  have e1 : Rows.fibLongestSpec.fn H ([d0, .lit (.int .i64 x1)] ++ []) = { results := [.lit (.bool true)], args := [d0, .lit (.int .i64 x1)] } := by simp [Rows.fibLongestSpec]
  refine (fibLongest_any L qa ca x1 E W hpa hE hX (ng_of hsh)).mono fun e W' ⟨he, hb⟩ => ?_
  subst he
  refine ⟨_, rfl, _, _, _, [], p0 ++ [], [], hW', ?_, ?_, ?_, hb.frame _, fun h => by cases h⟩
  · rw [e1]; exact trodAll_mk1 (shut_bool Tryd.underlying4 true)
  · rw [e1]
    exact trodAll_mk2 (Below.trod laidOutF (by kernel_rfl) (of_decide_eq_true (by kernel_rfl)) h0k hb (fun x hx => hlt x (by simp [hx]))) (shut_int Tryd.underlying3 wx1)
  · rw [e1]; rfl

theorem longest_holds : Rows.FibLongestSaid :=
  OpenClaim.holds_of_wide 4 Tryd.f4 rfl rfl rfl rfl rfl rfl rfl ⟨rfl, rfl, rfl, rfl, rfl⟩ rfl rfl rfl rfl rfl (by kernel_rfl) Tryd.func4 (by kernel_rfl)
    (of_decide_eq_true (by kernel_rfl)) (by unfold Func.isWrapper; rw [if_neg (of_decide_eq_false (by kernel_rfl))]; exact ⟨rfl, rfl⟩)
    (fun os started H enc _ => longest_lifted os started H enc)

theorem longest_card : Rows.FibLongestCardSaid :=
  Claim7.holds_tied_plain_at .later [] _ _ _ _
    longest_holds (fun _ h => by cases h) (by kernel_rfl) (fun _ h => by cases h) fibLongest_row_tie rfl ⟨rfl, rfl⟩ (by kernel_rfl) rfl
    (fun f fn hf hfn => by
      obtain rfl : f = 4 := Option.some.inj ((show Tryd.prog.funcNamed "herepath/herepathlaw1.FibLongest" = some 4 by kernel_rfl).symm.trans hf) |>.symm
      obtain rfl : fn = Tryd.f4 := (Option.some.inj (Tryd.func4.symm.trans hfn)).symm
      exact ⟨by kernel_rfl, fun j t ht => by
        rw [Tryd.params4] at ht
        have hm : t ∈ [31, 3] := by simpa using Array.mem_of_getElem? ht
        have hall : ([31, 3].all fun u => !Tryd.prog.wantsStandIn u) = true := by kernel_rfl
        exact (show Tryd.prog.wantsStandIn t = false by simpa using List.all_eq_true.1 hall t hm)⟩)
    (by kernel_rfl)
#print axioms longest_card
end Go.Proofs.YthehpnhjfnenoabDoor
