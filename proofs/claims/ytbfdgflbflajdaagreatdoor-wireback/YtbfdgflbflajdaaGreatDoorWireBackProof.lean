/-
  PROVED: herepathlaw2.WireBack returns true for every message (Kind any text, N any int, Drops any prefixes, Adds any routes, whatever memory the lists share), every int at, and every text bad: a message that is right is read as it was written; and where its text has one route of Adds told wrongly (bad, in place of its ATTR), that route is taken for lost: it is among Drops, all other routes are read as they were, and Drops are longer by one. (Where Kind has more than 20 bytes, one of the lists more than 30 elements and not 61, a Path more than 20 systems or Tags more than 15, where bad has more than 40 bytes, or at is below 0, the law itself looks at one closed fact alone; where the text has more than 7800 bytes, at Text alone.) Each argument reads afterwards as it read before. CONDITIONS: the listed package-level variables (seven errors of package api; errors.errorType; tables of math/bits, internal/strconv and unicode/utf8) read as the program's own initialisers lay them when the call begins: tied to the program's text by the given tie (the card 'Rows.WireBackCardSaid').
-/
import Derived.Test.YtbfdgflbflajdaaGreatDoorCards
import Derived.Test.YtbfdgflbflajdaaGreatDoorTie
import Derived.Test.YtbfdgflbflajdaaGreatDoorWireRowEnv
import Derived.Test.YtbfdgflbflajdaaGreatDoorLaid
import Derived.Test.YtbfdgflbflajdaaGreatDoorWireBack
import Derived.SevenTiedAt
import Derived.ChangeMaps5
namespace Go.Proofs.YtbfdgflbflajdaaGreatDoor
open Go.ChangeShapes Go.WideShapes Go.ChangeAt Go.RowKit Go.Joins Go.ChangeMaps

def sevenW : List (String × List UInt8) := [("herepath/api.ErrText", [104, 101, 114, 101, 112, 97, 116, 104, 58, 32, 116, 101, 120, 116]), ("herepath/api.ErrBound", [104, 101, 114, 101, 112, 97, 116, 104, 58, 32, 98, 111, 117, 110, 100]), ("herepath/api.ErrShape", [104, 101, 114, 101, 112, 97, 116, 104, 58, 32, 115, 104, 97, 112, 101]), ("herepath/api.ErrKind", [104, 101, 114, 101, 112, 97, 116, 104, 58, 32, 107, 105, 110, 100]), ("herepath/api.ErrExist", [104, 101, 114, 101, 112, 97, 116, 104, 58, 32, 101, 120, 105, 115, 116]), ("herepath/api.ErrFull", [104, 101, 114, 101, 112, 97, 116, 104, 58, 32, 102, 117, 108, 108]), ("herepath/api.ErrOrder", [104, 101, 114, 101, 112, 97, 116, 104, 58, 32, 111, 114, 100, 101, 114])]
theorem gnW0 : Tryz.prog.globalNamed "herepath/api.ErrText" = some 2 := by kernel_rfl
theorem gnW1 : Tryz.prog.globalNamed "herepath/api.ErrBound" = some 1 := by kernel_rfl
theorem gnW2 : Tryz.prog.globalNamed "herepath/api.ErrShape" = some 4 := by kernel_rfl
theorem gnW3 : Tryz.prog.globalNamed "herepath/api.ErrKind" = some 5 := by kernel_rfl
theorem gnW5 : Tryz.prog.globalNamed "herepath/api.ErrExist" = some 7 := by kernel_rfl
theorem gnW6 : Tryz.prog.globalNamed "herepath/api.ErrFull" = some 0 := by kernel_rfl
theorem gnW7 : Tryz.prog.globalNamed "herepath/api.ErrOrder" = some 3 := by kernel_rfl
theorem sevenW_named : ∀ x ∈ sevenW, ∃ g, Tryz.prog.globalNamed x.1 = some g ∧ (Tryz.prog.globals[g]?).map (·.type) = some 28 := by
  intro x hx
  simp only [sevenW, List.mem_cons, List.not_mem_nil, or_false] at hx
  rcases hx with rfl | rfl | rfl | rfl | rfl | rfl | rfl
  · exact ⟨_, gnW0, by kernel_rfl⟩
  · exact ⟨_, gnW1, by kernel_rfl⟩
  · exact ⟨_, gnW2, by kernel_rfl⟩
  · exact ⟨_, gnW3, by kernel_rfl⟩
  · exact ⟨_, gnW5, by kernel_rfl⟩
  · exact ⟨_, gnW6, by kernel_rfl⟩
  · exact ⟨_, gnW7, by kernel_rfl⟩
def addrsW (t b s k x f o : Addr) : Nat → Addr
  | 0 => t
  | 1 => b
  | 2 => s
  | 3 => k
  | 5 => x
  | 6 => f
  | _ => o
theorem wire_env {W : World} (h : laidMetH Tryz.prog Rows.wireBackRow.laid W) (hsh : W.ShapedOpen Tryz.prog) : ∃ E m, WireEnv W E m := by
  have h' : laidMet Tryz.prog (("math/bits.deBruijn32tab", Rows.laid_math_bits_deBruijn32tab) :: ("math/bits.deBruijn64tab", Rows.laid_math_bits_deBruijn64tab) :: ("internal/strconv.uint64pow10", Rows.laid_internal_strconv_uint64pow10) :: ("unicode/utf8.acceptRanges", Rows.laid_unicode_utf8_acceptRanges) :: (sevenW.map (fun x => (x.1, errD x.2)) ++ [("unicode/utf8.first", Rows.laid_unicode_utf8_first)])) W ∧ handlesMet Tryz.prog [("errors.errorType", Rows.laid_errors_errorType)] W := h
  have h2 := laidMet.tail (laidMet.tail h'.1)
  have h4 := laidMet.tail (laidMet.tail h2)
  obtain ⟨ps, hv, hnd, hrows⟩ := h4
  obtain ⟨az, -, -, -, hget⟩ := errs_of_laid sevenW [("unicode/utf8.first", Rows.laid_unicode_utf8_first)] ps sevenW_named hv hnd hrows
  obtain ⟨a0, -, e0, -⟩ := hget 0 _ rfl
  obtain ⟨a1, -, e1, -⟩ := hget 1 _ rfl
  obtain ⟨a2, -, e2, -⟩ := hget 2 _ rfl
  obtain ⟨a3, -, e3, -⟩ := hget 3 _ rfl
  obtain ⟨a4, -, e4, -⟩ := hget 4 _ rfl
  obtain ⟨a5, -, e5, -⟩ := hget 5 _ rfl
  obtain ⟨a6, -, e6, -⟩ := hget 6 _ rfl
  obtain ⟨m, hm⟩ := aMax_of hsh
  exact ⟨addrsW a0 a1 a2 a3 a4 a5 a6, m, ⟨by simpa [addrsW] using World.var?_cell gnW0 e0 0, by simpa [addrsW] using World.var?_cell gnW1 e1 0, by simpa [addrsW] using World.var?_cell gnW6 e5 0, by simpa [addrsW] using World.var?_cell gnW7 e6 0, handle_of h'.2 (List.mem_singleton.2 rfl), hm, aTab_of h2⟩, by simpa [addrsW] using World.var?_cell gnW2 e2 0, by simpa [addrsW] using World.var?_cell gnW3 e3 0, by simpa [addrsW] using World.var?_cell gnW5 e4 0⟩
theorem laidMet_layOn {P : Program} {w0 : World} {laid : List (String × DataW Unit)} (args : Array Value) (hf : w0.layFits P laid [] = true) (hi : w0.layIfaces P laid (w0.layVars P laid) = true) :
    laidMet P laid ((w0.layVars P laid).forCall (fun _ _ => 0) ⟨#[], args, []⟩).memory := by
  have e1 : (laid.filter fun x => (laid.map (·.1)).contains x.1) = laid := List.filter_eq_self.2 fun x hx => List.contains_iff_mem.2 (List.mem_map.2 ⟨x, hx, rfl⟩)
  have e2 : (laid.filter fun x => !(laid.map (·.1)).contains x.1) = [] := List.filter_eq_nil_iff.2 fun x hx => by rw [List.contains_iff_mem.2 (List.mem_map.2 ⟨x, hx, rfl⟩)]; simp
  have h : laidMet P laid (w0.layVars P laid) := laidMet_layVars (w0 := w0) (laid.map (·.1)) [] (by rw [e1]) (by rw [e1]; exact hf) (by rw [e1]; exact hi) (by rw [e2]; exact LaidIn.none)
  exact h.of_heap (by simp [World.memory, World.forCall, Input.heap])
set_option maxRecDepth 100000 in
theorem wback_met (os : Os) (args : Array Value) : laidMetH Tryz.prog Rows.wireBackRow.laid ((((World.holding Tryz.prog os ⟨#[], #[], []⟩).setCell ⟨9, 0, none⟩ (.iface 182 (.agg #[.pointer (some ⟨16, 28, none⟩)]))).layVars Tryz.prog (Rows.wireBackRow.laid.filter fun x => x.2.handleName?.isNone)).forCall (fun _ _ => 0) ⟨#[], args, []⟩).memory :=
  laidMetH_of_parts3 (fuel := 8) (laidMet_layOn args (by kernel_rfl) (by kernel_rfl)) (by kernel_rfl) (by kernel_rfl)

set_option maxRecDepth 100000 in
theorem wback_lifted (os : Os) (started : os.Started) (H : Type) (enc : TypeId × Value → H) :
    ReturnsInHanded {} Tryz.checked os 5 .any (fun w args => (Rows.wireBackSpec.pre enc Tryz.prog Tryz.f5 [] false w args ∧ laidMetH Tryz.prog Rows.wireBackRow.laid w) ∧ sizedMet enc Tryz.prog Tryz.f5 (OpenSpec.ofChange Rows.wireBackSpec) false w args)
      (Rows.wireBackSpec.post enc Tryz.prog Tryz.f5 false true false false) := by
  refine returns_shaped (C := Tryz.checked) (X := fun w _ => laidMetH Tryz.prog Rows.wireBackRow.laid w) (fun _ _ _ hh h => h.of_heap hh) own' started (by kernel_rfl) Tryz.func5
    (ChangeSpec.witness_shaped (enc := enc) (C := Tryz.checked) (os := os) (X := fun w _ => laidMetH Tryz.prog Rows.wireBackRow.laid w) false (((World.holding Tryz.prog os ⟨#[], #[], []⟩).setCell ⟨9, 0, none⟩ (.iface 182 (.agg #[.pointer (some ⟨16, 28, none⟩)]))).layVars Tryz.prog (Rows.wireBackRow.laid.filter fun x => x.2.handleName?.isNone)) #[.agg #[.string ⟨#[]⟩, .int .i64 0, .slice none 0 0, .slice none 0 0], .int .i64 0, .string ⟨#[]⟩] 8 (World.layVars_os _ _ _)
      (World.shaped_of_ZipB (by kernel_rfl) (by kernel_rfl)) (by kernel_rfl) (by kernel_rfl) (by kernel_rfl) (wback_met os _)) ?_
  intro W base args ds gs before hval0 hW hL hsh
  have hval : ∀ (j : Nat) t v, Tryz.f5.params[j]? = some t → args[j]? = some v → Value.okWide Tryz.prog W .any base t v := hval0
  have hW' := hW
  obtain ⟨p, q, hA0, hV, rfl, hfz, hnd⟩ := hW
  have hA : DataW.TrodAll enc Tryz.prog W 0 (fun _ => true) true Tryz.f5.params.toList args.toList ds p := hA0
  rw [Tryz.params5] at hA hval
  obtain ⟨v0, vs0, d0, ds0, p0, q0, hargs, rfl, rfl, h0, r0⟩ := trodAll_cons hA
  obtain ⟨v1, vs1, d1, ds1, p1, q1, rfl, rfl, rfl, h1, r1⟩ := trodAll_cons r0
  obtain ⟨v2, vs2, d2, ds2, p2, q2, rfl, rfl, rfl, h2, r2⟩ := trodAll_cons r1
  obtain ⟨rfl, rfl, rfl⟩ := trodAll_nil r2
  obtain rfl : args = #[v0, v1, v2] := by cases args; simp_all
  obtain ⟨rfl, rfl⟩ := trodVars_none hV
  have h0k := h0
  have hlt : ∀ x ∈ p0, x.block < W.heap.size := fun x hx => by
    have := hW'.lt x (by simp [hx])
    simpa using this
  obtain ⟨M, hk⟩ := open_msg (hval 0 55 v0 rfl rfl) h0
  obtain ⟨x1, rfl, rfl, rfl, wx1⟩ := open_int Tryz.underlying3 (hval 1 3 v1 rfl rfl) h1
  obtain ⟨s, rfl, rfl, rfl, hs⟩ := open_string Tryz.underlying9 (hval 2 9 v2 rfl rfl) h2
  obtain ⟨E, m, hE⟩ := wire_env hL hsh
  clear hA0 hval0
  have e1 : Rows.wireBackSpec.fn H ([d0, .lit (.int .i64 x1), .lit (.string s.data.toList)] ++ []) = { results := [.lit (.bool true)], args := [d0, .lit (.int .i64 x1), .lit (.string s.data.toList)] } := by simp [Rows.wireBackSpec]
  refine (wireBack_any v0 M x1 s E m W hE hk hs).mono fun e W' ⟨he, hb⟩ => ?_
  subst he
  refine ⟨_, rfl, _, _, _, [], p0 ++ ([] ++ []), [], hW', ?_, ?_, ?_, hb.frame _, fun h => by cases h⟩
  · rw [e1]; exact trodAll_mk1 (shut_bool Tryz.underlying4 true)
  · rw [e1]
    exact trodAll_cons_mk (Below.trod laidOutF (by kernel_rfl) (of_decide_eq_true (by kernel_rfl)) h0k hb (fun x hx => hlt x hx)) (trodAll_mk2 (shut_int Tryz.underlying3 wx1) (shut_string Tryz.underlying9 hs))
  · rw [e1]; rfl

theorem wback_holds : Rows.WireBackSaid :=
  OpenClaim.holds_of_wide 5 Tryz.f5 rfl rfl rfl rfl rfl rfl rfl ⟨rfl, rfl, rfl, rfl, rfl⟩ rfl rfl rfl rfl rfl (by kernel_rfl) Tryz.func5 (by kernel_rfl)
    (of_decide_eq_true (by kernel_rfl)) (by unfold Func.isWrapper; rw [if_neg (of_decide_eq_false (by kernel_rfl))]; exact ⟨rfl, rfl⟩)
    (fun os started H enc _ => wback_lifted os started H enc)

theorem wback_card : Rows.WireBackCardSaid :=
  Claim7.holds_tied_plain_at .later [] _ _ _ _
    wback_holds (fun _ h => by cases h) (by kernel_rfl) (fun _ h => by cases h) wireBack_row_tie rfl ⟨rfl, rfl⟩ (by kernel_rfl) rfl
    (fun f fn hf hfn => by
      obtain rfl : f = 5 := Option.some.inj ((show Tryz.prog.funcNamed "herepath/herepathlaw2.WireBack" = some 5 by kernel_rfl).symm.trans hf) |>.symm
      obtain rfl : fn = Tryz.f5 := (Option.some.inj (Tryz.func5.symm.trans hfn)).symm
      exact ⟨by kernel_rfl, fun j t ht => by
        rw [Tryz.params5] at ht
        have hm : t ∈ [55, 3, 9] := by simpa using Array.mem_of_getElem? ht
        have hall : ([55, 3, 9].all fun u => !Tryz.prog.wantsStandIn u) = true := by kernel_rfl
        exact (show Tryz.prog.wantsStandIn t = false by simpa using List.all_eq_true.1 hall t hm)⟩)
    (by kernel_rfl)
#print axioms wback_card
end Go.Proofs.YtbfdgflbflajdaaGreatDoor
