/-
  PROVED: herepathlaw1.IpTells returns true for every two prefixes p, q (whatever two int's each), every text s, every two int's a, n: package ip's answers on them (ReadAddr, AddrText, Read, Check, Text, Cut, Has, In, Less, Size) are those of the document's answer. Each argument reads afterwards as it read before. CONDITIONS: the listed package-level variables (the errors of package api; errors.errorType; tables of math/bits, internal/strconv and unicode/utf8) read as the program's own initialisers lay them when the call begins: tied to the program's text by the given tie (the card 'Rows.IpTellsCardSaid').
-/
import Derived.Test.YthehpnhjfnenoaaDoorCards
import Derived.Test.YthehpnhjfnenoaaDoorTie
import Derived.Test.YthehpnhjfnenoaaDoorIpRow
import Derived.Test.YthehpnhjfnenoaaDoorTells
import Derived.SevenTiedAt
import Derived.ChangeMaps5
namespace Go.Proofs.YthehpnhjfnenoaaDoor
open Go.ChangeShapes Go.WideShapes Go.ChangeAt Go.RowKit Go.Joins Go.ChangeMaps

theorem tells_any (pa pn qa qn : Int) (s : ByteArray) (x n : Int) (a : Nat → Addr) (m : Int) (w : World) (A : TwAll w a m) :
    Calls Tryd.prog 5 #[.agg #[.int .i64 pa, .int .i64 pn], .agg #[.int .i64 qa, .int .i64 qn], .string s, .int .i64 x, .int .i64 n] w fun e w' => e = .returned (.bool true) ∧ Below w.heap.size w w' := by
  by_cases h : 60 < s.size
  · exact tells_long pa pn qa qn s x n a m w A h
  · exact tells_short pa pn qa qn s x n a m w A (by omega)

section
variable {H : Type} {enc : TypeId × Value → H} {P : Program} {w : World} {base : Nat} {spare : Nat → Bool} {held : Bool}
theorem trodAll_five {t0 t1 t2 t3 t4 : TypeId} {args : Array Value} {ds : List (DataW H)} {ps : List MemPlace} (h : DataW.TrodAll enc P w base spare held [t0, t1, t2, t3, t4] args.toList ds ps) :
    ∃ v0 v1 v2 v3 v4 d0 d1 d2 d3 d4 p0 p1 p2 p3 p4, args = #[v0, v1, v2, v3, v4] ∧ ds = [d0, d1, d2, d3, d4] ∧ ps = p0 ++ (p1 ++ (p2 ++ (p3 ++ p4))) ∧ DataW.Trod enc P w base spare held t0 v0 d0 p0 ∧ DataW.Trod enc P w base spare held t1 v1 d1 p1 ∧ DataW.Trod enc P w base spare held t2 v2 d2 p2 ∧ DataW.Trod enc P w base spare held t3 v3 d3 p3 ∧ DataW.Trod enc P w base spare held t4 v4 d4 p4 := by
  obtain ⟨v0, vs0, d0, ds0, p0, q0, hargs, rfl, rfl, h0, r0⟩ := trodAll_cons h
  obtain ⟨v1, vs1, d1, ds1, p1, q1, rfl, rfl, rfl, h1, r1⟩ := trodAll_cons r0
  obtain ⟨v2, vs2, d2, ds2, p2, q2, rfl, rfl, rfl, h2, r2⟩ := trodAll_cons r1
  obtain ⟨v3, vs3, d3, ds3, p3, q3, rfl, rfl, rfl, h3, r3⟩ := trodAll_cons r2
  obtain ⟨v4, vs4, d4, ds4, p4, q4, rfl, rfl, rfl, h4, r4⟩ := trodAll_cons r3
  obtain ⟨rfl, rfl, rfl⟩ := trodAll_nil r4
  exact ⟨v0, v1, v2, v3, v4, d0, d1, d2, d3, d4, p0, p1, p2, p3, p4, by cases args; simp_all, rfl, by simp, h0, h1, h2, h3, h4⟩
end

/-- What the row's condition gives. -/
theorem tells_env {W : World} (h : laidMetH Tryd.prog Rows.ipTellsRow.laid W) (hsh : W.ShapedOpen Tryd.prog) : ∃ a m, TwAll W a m := by
  have h' : laidMet Tryd.prog (("math/bits.deBruijn32tab", Rows.laid_math_bits_deBruijn32tab) :: ("math/bits.deBruijn64tab", Rows.laid_math_bits_deBruijn64tab) :: ("internal/strconv.uint64pow10", Rows.laid_internal_strconv_uint64pow10) :: ("unicode/utf8.acceptRanges", Rows.laid_unicode_utf8_acceptRanges) :: (nine.map (fun x => (x.1, errD x.2)) ++ [("unicode/utf8.first", Rows.laid_unicode_utf8_first)])) W ∧ handlesMet Tryd.prog [("errors.errorType", Rows.laid_errors_errorType)] W := h
  have h2 := laidMet.tail (laidMet.tail h'.1)
  have h4 := laidMet.tail (laidMet.tail h2)
  obtain ⟨a, hL⟩ := errsLaid_of [("unicode/utf8.first", Rows.laid_unicode_utf8_first)] h4 (handle_of h'.2 (List.mem_singleton.2 rfl))
  obtain ⟨m, hm⟩ := max_of hsh
  exact ⟨a, m, hL, ⟨rfl, hL.c1, hL.c2⟩, hm, tab_of h2, hL.c0⟩

theorem laidMet_layOn {P : Program} {w0 : World} {laid : List (String × DataW Unit)} (args : Array Value) (hf : w0.layFits P laid [] = true) (hi : w0.layIfaces P laid (w0.layVars P laid) = true) :
    laidMet P laid ((w0.layVars P laid).forCall (fun _ _ => 0) ⟨#[], args, []⟩).memory := by
  have e1 : (laid.filter fun x => (laid.map (·.1)).contains x.1) = laid := List.filter_eq_self.2 fun x hx => List.contains_iff_mem.2 (List.mem_map.2 ⟨x, hx, rfl⟩)
  have e2 : (laid.filter fun x => !(laid.map (·.1)).contains x.1) = [] := List.filter_eq_nil_iff.2 fun x hx => by rw [List.contains_iff_mem.2 (List.mem_map.2 ⟨x, hx, rfl⟩)]; simp
  have h : laidMet P laid (w0.layVars P laid) := laidMet_layVars (w0 := w0) (laid.map (·.1)) [] (by rw [e1]) (by rw [e1]; exact hf) (by rw [e1]; exact hi) (by rw [e2]; exact LaidIn.none)
  exact h.of_heap (by simp [World.memory, World.forCall, Input.heap])
set_option maxRecDepth 100000 in
theorem tells_met (os : Os) (args : Array Value) : laidMetH Tryd.prog Rows.ipTellsRow.laid ((((World.holding Tryd.prog os ⟨#[], #[], []⟩).setCell ⟨9, 0, none⟩ (.iface 117 (.agg #[.pointer (some ⟨16, 25, none⟩)]))).layVars Tryd.prog (Rows.ipTellsRow.laid.filter fun x => x.2.handleName?.isNone)).forCall (fun _ _ => 0) ⟨#[], args, []⟩).memory :=
  laidMetH_of_parts3 (fuel := 8) (laidMet_layOn args (by kernel_rfl) (by kernel_rfl)) (by kernel_rfl) (by kernel_rfl)

set_option maxRecDepth 100000 in
theorem tells_lifted (os : Os) (started : os.Started) (H : Type) (enc : TypeId × Value → H) :
    ReturnsInHanded {} Tryd.checked os 5 .any (fun w args => (Rows.ipTellsSpec.pre enc Tryd.prog Tryd.f5 [] false w args ∧ laidMetH Tryd.prog Rows.ipTellsRow.laid w) ∧ sizedMet enc Tryd.prog Tryd.f5 (OpenSpec.ofChange Rows.ipTellsSpec) false w args)
      (Rows.ipTellsSpec.post enc Tryd.prog Tryd.f5 false true false false) := by
  refine returns_shaped (C := Tryd.checked) (X := fun w _ => laidMetH Tryd.prog Rows.ipTellsRow.laid w) (fun _ _ _ hh h => h.of_heap hh) own' started (by kernel_rfl) Tryd.func5
    (ChangeSpec.witness_shaped (enc := enc) (C := Tryd.checked) (os := os) (X := fun w _ => laidMetH Tryd.prog Rows.ipTellsRow.laid w) false (((World.holding Tryd.prog os ⟨#[], #[], []⟩).setCell ⟨9, 0, none⟩ (.iface 117 (.agg #[.pointer (some ⟨16, 25, none⟩)]))).layVars Tryd.prog (Rows.ipTellsRow.laid.filter fun x => x.2.handleName?.isNone)) #[.agg #[.int .i64 0, .int .i64 0], .agg #[.int .i64 0, .int .i64 0], .string ⟨#[]⟩, .int .i64 0, .int .i64 0] 8 (World.layVars_os _ _ _)
      (World.shaped_of_ZipB (by kernel_rfl) (by kernel_rfl)) (by kernel_rfl) (by kernel_rfl) (by kernel_rfl) (tells_met os _)) ?_
  intro W base args ds gs before hval0 hW hL hsh
  have hval : ∀ (j : Nat) t v, Tryd.f5.params[j]? = some t → args[j]? = some v → Value.okWide Tryd.prog W .any base t v := hval0
  have hW' := hW
  obtain ⟨p, q, hA0, hV, rfl, hfz, hnd⟩ := hW
  have hA : DataW.TrodAll enc Tryd.prog W 0 (fun _ => true) true Tryd.f5.params.toList args.toList ds p := hA0
  rw [Tryd.params5] at hA hval
  obtain ⟨v0, v1, v2, v3, v4, d0, d1, d2, d3, d4, p0, p1, p2, p3, p4, rfl, rfl, rfl, h0, h1, h2, h3, h4⟩ := trodAll_five hA
  obtain ⟨rfl, rfl⟩ := trodVars_none hV
  obtain ⟨pa, pn, rfl, rfl, rfl, wp0, wp1⟩ := open_prefix (hval 0 36 v0 rfl rfl) h0
  obtain ⟨qa, qn, rfl, rfl, rfl, wq0, wq1⟩ := open_prefix (hval 1 36 v1 rfl rfl) h1
  obtain ⟨s, rfl, rfl, rfl, hs⟩ := open_string Tryd.underlying9 (hval 2 9 v2 rfl rfl) h2
  obtain ⟨x, rfl, rfl, rfl, wx⟩ := open_int Tryd.underlying3 (hval 3 3 v3 rfl rfl) h3
  obtain ⟨n, rfl, rfl, rfl, wn⟩ := open_int Tryd.underlying3 (hval 4 3 v4 rfl rfl) h4
  obtain ⟨a, m, hE⟩ := tells_env hL hsh
  clear hA0 hval0
  have e1 : Rows.ipTellsSpec.fn H ([.agg [.lit (.int .i64 pa), .lit (.int .i64 pn)], .agg [.lit (.int .i64 qa), .lit (.int .i64 qn)], .lit (.string s.data.toList), .lit (.int .i64 x), .lit (.int .i64 n)] ++ []) = { results := [.lit (.bool true)], args := [.agg [.lit (.int .i64 pa), .lit (.int .i64 pn)], .agg [.lit (.int .i64 qa), .lit (.int .i64 qn)], .lit (.string s.data.toList), .lit (.int .i64 x), .lit (.int .i64 n)] } := by simp [Rows.ipTellsSpec]
  refine (tells_any pa pn qa qn s x n a m W hE).mono fun e W' ⟨he, hb⟩ => ?_
  subst he
  refine ⟨_, rfl, _, _, _, [], [], [], hW', ?_, ?_, ?_, hb.frame _, fun h => by cases h⟩
  · rw [e1]; exact trodAll_mk1 (shut_bool Tryd.underlying4 true)
  · rw [e1]; exact trodAll_cons_mk (shut_prefix wp0 wp1) (trodAll_cons_mk (shut_prefix wq0 wq1) (trodAll_mk3 (shut_string Tryd.underlying9 hs) (shut_int Tryd.underlying3 wx) (shut_int Tryd.underlying3 wn)))
  · rw [e1]; rfl

theorem tells_holds : Rows.IpTellsSaid :=
  OpenClaim.holds_of_wide 5 Tryd.f5 rfl rfl rfl rfl rfl rfl rfl ⟨rfl, rfl, rfl, rfl, rfl⟩ rfl rfl rfl rfl rfl (by kernel_rfl) Tryd.func5 (by kernel_rfl)
    (of_decide_eq_true (by kernel_rfl)) (by unfold Func.isWrapper; rw [if_neg (of_decide_eq_false (by kernel_rfl))]; exact ⟨rfl, rfl⟩)
    (fun os started H enc _ => tells_lifted os started H enc)

theorem tells_card : Rows.IpTellsCardSaid :=
  Claim7.holds_tied_plain_at .later [] _ _ _ _
    tells_holds (fun _ h => by cases h) (by kernel_rfl) (fun _ h => by cases h) ipTells_row_tie rfl ⟨rfl, rfl⟩ (by kernel_rfl) rfl
    (fun f fn hf hfn => by
      obtain rfl : f = 5 := Option.some.inj ((show Tryd.prog.funcNamed "herepath/herepathlaw1.IpTells" = some 5 by kernel_rfl).symm.trans hf) |>.symm
      obtain rfl : fn = Tryd.f5 := (Option.some.inj (Tryd.func5.symm.trans hfn)).symm
      exact ⟨by kernel_rfl, fun j t ht => by
        rw [Tryd.params5] at ht
        have hm : t ∈ [36, 36, 9, 3, 3] := by simpa using Array.mem_of_getElem? ht
        have hall : ([36, 36, 9, 3, 3].all fun u => !Tryd.prog.wantsStandIn u) = true := by kernel_rfl
        exact (show Tryd.prog.wantsStandIn t = false by simpa using List.all_eq_true.1 hall t hm)⟩)
    (by kernel_rfl)
#print axioms tells_card
end Go.Proofs.YthehpnhjfnenoaaDoor
