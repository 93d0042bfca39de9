/-
  PROVED: herepathlaw1.IpHalves returns true for every two prefixes p, q (whatever two int's each) and every int a: an address of a right prefix is in just one of its halves, a half is of the one above, two right prefixes have one in the other or nothing together, what is cut and what is written and read again agrees. Each argument reads afterwards as it read before. CONDITIONS: the listed package-level variables (ErrText, ErrBound, ErrShape, ErrNone of package api; tables of math/bits, internal/strconv and unicode/utf8) read as the program's own initialisers lay them when the call begins: tied to the program's text by the given tie (the card 'Rows.IpHalvesCardSaid').
-/
import Derived.Test.YthehpnhjfnenoaaDoorCards
import Derived.Test.YthehpnhjfnenoaaDoorTie
import Derived.Test.YthehpnhjfnenoaaDoorIpRow
import Derived.Test.YthehpnhjfnenoaaDoorHalvesLt
import Derived.SevenTiedAt
namespace Go.Proofs.YthehpnhjfnenoaaDoor
open Go.ChangeShapes Go.WideShapes Go.ChangeAt Go.RowKit Go.Joins

theorem halves_any (pa pn qa qn a : Int) (et eb es en : Addr) (m : Int) (w : World) (h : IpEnv w et eb es m) (hn : w.cell? ⟨4, 0, none⟩ = some (.iface 72 (.pointer (some en)))) :
    Calls Tryd.prog 4 #[.agg #[.int .i64 pa, .int .i64 pn], .agg #[.int .i64 qa, .int .i64 qn], .int .i64 a] w fun e w' => e = .returned (.bool true) ∧ Below w.heap.size w w' := by
  cases hp : rt pa pn with
  | false => exact halves_not pa pn qa qn a et eb es en m w h hn (Or.inl hp)
  | true =>
    cases hq : rt qa qn with
    | false => exact halves_not pa pn qa qn a et eb es en m w h hn (Or.inr hq)
    | true =>
      refine halves_lt pa pn qa qn a et eb es en m w h hn hp hq ?_
      have key : inB pa pn qa qn = true → inB qa qn pa pn = true → pa = qa ∧ pn = qn := fun h1 h2 => in_both hp hq h1 h2
      by_cases ha : pa = qa
      · by_cases hb : pn = qn
        · subst ha hb
          exact Or.inr (Or.inr (Or.inr (Or.inr ⟨rfl, rfl, in_self hp⟩)))
        · cases h1 : inB pa pn qa qn with
          | false => exact Or.inr (Or.inr (Or.inl ⟨ha, hb, rfl⟩))
          | true =>
            cases h2 : inB qa qn pa pn with
            | false => exact Or.inr (Or.inr (Or.inr (Or.inl ⟨ha, hb, rfl, rfl⟩)))
            | true => exact absurd (key h1 h2).2 hb
      · cases h1 : inB pa pn qa qn with
        | false => exact Or.inl ⟨ha, rfl⟩
        | true =>
          cases h2 : inB qa qn pa pn with
          | false => exact Or.inr (Or.inl ⟨ha, rfl, rfl⟩)
          | true => exact absurd (key h1 h2).1 ha

/-- the errors that the law's callees hand back. -/
def four : List (String × List UInt8) := nine.take 3 ++ (nine.drop 4).take 1
theorem four_named : ∀ x ∈ four, ∃ g, Tryd.prog.globalNamed x.1 = some g ∧ (Tryd.prog.globals[g]?).map (·.type) = some 25 := fun x hx => by
  unfold four at hx
  rcases List.mem_append.1 hx with hx | hx
  · exact nine_named x (List.mem_of_mem_take hx)
  · exact nine_named x (List.mem_of_mem_drop (List.mem_of_mem_take hx))
theorem ipErrs4_of {W : World} (rest : List (String × DataW Unit)) (h : laidMet Tryd.prog (four.map (fun x => (x.1, errD x.2)) ++ rest) W) : ∃ et eb es en, IpErrs W et eb es ∧ W.cell? ⟨4, 0, none⟩ = some (.iface 72 (.pointer (some en))) ∧ W.cell? ⟨0, 0, none⟩ = some (.iface 72 (.pointer (some et))) := by
  obtain ⟨ps, hv, hnd, hrows⟩ := h
  obtain ⟨az, -, -, -, hget⟩ := errs_of_laid four rest ps four_named hv hnd hrows
  obtain ⟨a0, -, h0, -⟩ := hget 0 _ rfl
  obtain ⟨a1, -, h1, -⟩ := hget 1 _ rfl
  obtain ⟨a2, -, h2, -⟩ := hget 2 _ rfl
  obtain ⟨a3, -, h3, -⟩ := hget 3 _ rfl
  exact ⟨a0, a1, a2, a3, ⟨rfl, by simpa using World.var?_cell gn1 h1 0, by simpa using World.var?_cell gn2 h2 0⟩, by simpa using World.var?_cell gn4 h3 0, by simpa using World.var?_cell gn0 h0 0⟩

/-- What the row's condition gives. -/
theorem halves_env {W : World} (h : laidMetH Tryd.prog Rows.ipHalvesRow.laid W) (hsh : W.ShapedOpen Tryd.prog) : ∃ et eb es en m, IpEnv W et eb es m ∧ W.cell? ⟨4, 0, none⟩ = some (.iface 72 (.pointer (some en))) := by
  have h0 : laidMet Tryd.prog Rows.ipHalvesRow.laid W := by rw [MakeChecks.laidMetH_plain _ _ _ (by kernel_rfl)] at h; exact h
  have h2 := laidMet.tail (laidMet.tail h0)
  obtain ⟨et, eb, es, en, hE, hN, hT⟩ := ipErrs4_of [("unicode/utf8.first", Rows.laid_unicode_utf8_first)] (laidMet.tail (laidMet.tail h2))
  obtain ⟨m, hm⟩ := max_of hsh
  exact ⟨et, eb, es, en, m, ⟨hE, hm, tab_of h2, hT⟩, hN⟩

set_option maxRecDepth 100000 in
theorem halves_met (os : Os) (args : Array Value) : laidMetH Tryd.prog Rows.ipHalvesRow.laid ((World.laidAll Tryd.prog os Rows.ipHalvesRow.laid).forCall (fun _ _ => 0) ⟨#[], args, []⟩).memory := by
  rw [MakeChecks.laidMetH_plain _ _ _ (by kernel_rfl)]
  exact laidMet_laidAll _ (by kernel_rfl) (by kernel_rfl)

set_option maxRecDepth 100000 in
theorem halves_lifted (os : Os) (started : os.Started) (H : Type) (enc : TypeId × Value → H) :
    ReturnsInHanded {} Tryd.checked os 4 .any (fun w args => (Rows.ipHalvesSpec.pre enc Tryd.prog Tryd.f4 [] false w args ∧ laidMetH Tryd.prog Rows.ipHalvesRow.laid w) ∧ sizedMet enc Tryd.prog Tryd.f4 (OpenSpec.ofChange Rows.ipHalvesSpec) false w args)
      (Rows.ipHalvesSpec.post enc Tryd.prog Tryd.f4 false true false false) := by
  refine returns_shaped (C := Tryd.checked) (X := fun w _ => laidMetH Tryd.prog Rows.ipHalvesRow.laid w) (fun _ _ _ hh h => h.of_heap hh) own' started (by kernel_rfl) Tryd.func4
    (ChangeSpec.witness_shaped (enc := enc) (C := Tryd.checked) (os := os) (X := fun w _ => laidMetH Tryd.prog Rows.ipHalvesRow.laid w) false (World.laidAll Tryd.prog os Rows.ipHalvesRow.laid) #[.agg #[.int .i64 0, .int .i64 0], .agg #[.int .i64 0, .int .i64 0], .int .i64 0] 8 (World.laidAll_os _ _ _)
      (World.shaped_of_ZipB (by kernel_rfl) (by kernel_rfl)) (by kernel_rfl) (by kernel_rfl) (by kernel_rfl) (halves_met os _)) ?_
  intro W base args ds gs before hval0 hW hL hsh
  have hval : ∀ (j : Nat) t v, Tryd.f4.params[j]? = some t → args[j]? = some v → Value.okWide Tryd.prog W .any base t v := hval0
  have hW' := hW
  obtain ⟨p, q, hA0, hV, rfl, hfz, hnd⟩ := hW
  have hA : DataW.TrodAll enc Tryd.prog W 0 (fun _ => true) true Tryd.f4.params.toList args.toList ds p := hA0
  rw [Tryd.params4] at hA hval
  obtain ⟨v0, v1, v2, d0, d1, d2, p0, p1, p2, rfl, rfl, rfl, h0, h1, h2⟩ := trodAll_three hA
  obtain ⟨rfl, rfl⟩ := trodVars_none hV
  obtain ⟨pa, pn, rfl, rfl, rfl, wp0, wp1⟩ := open_prefix (hval 0 36 v0 rfl rfl) h0
  obtain ⟨qa, qn, rfl, rfl, rfl, wq0, wq1⟩ := open_prefix (hval 1 36 v1 rfl rfl) h1
  obtain ⟨a, rfl, rfl, rfl, wa⟩ := open_int Tryd.underlying3 (hval 2 3 v2 rfl rfl) h2
  obtain ⟨et, eb, es, en, m, hE, hN⟩ := halves_env hL hsh
  clear hA0 hval0
  have e1 : Rows.ipHalvesSpec.fn H ([.agg [.lit (.int .i64 pa), .lit (.int .i64 pn)], .agg [.lit (.int .i64 qa), .lit (.int .i64 qn)], .lit (.int .i64 a)] ++ []) = { results := [.lit (.bool true)], args := [.agg [.lit (.int .i64 pa), .lit (.int .i64 pn)], .agg [.lit (.int .i64 qa), .lit (.int .i64 qn)], .lit (.int .i64 a)] } := by simp [Rows.ipHalvesSpec]
  refine (halves_any pa pn qa qn a et eb es en m W hE hN).mono fun e W' ⟨he, hb⟩ => ?_
  subst he
  refine ⟨_, rfl, _, _, _, [], [], [], hW', ?_, ?_, ?_, hb.frame _, fun h => by cases h⟩
  · rw [e1]; exact trodAll_mk1 (shut_bool Tryd.underlying4 true)
  · rw [e1]; exact trodAll_mk3 (shut_prefix wp0 wp1) (shut_prefix wq0 wq1) (shut_int Tryd.underlying3 wa)
  · rw [e1]; rfl

theorem halves_holds : Rows.IpHalvesSaid :=
  OpenClaim.holds_of_wide 4 Tryd.f4 rfl rfl rfl rfl rfl rfl rfl ⟨rfl, rfl, rfl, rfl, rfl⟩ rfl rfl rfl rfl rfl (by kernel_rfl) Tryd.func4 (by kernel_rfl)
    (of_decide_eq_true (by kernel_rfl)) (by unfold Func.isWrapper; rw [if_neg (of_decide_eq_false (by kernel_rfl))]; exact ⟨rfl, rfl⟩)
    (fun os started H enc _ => halves_lifted os started H enc)

theorem halves_card : Rows.IpHalvesCardSaid :=
  Claim7.holds_tied_plain_at .later [] _ _ _ _
    halves_holds (fun _ h => by cases h) (by kernel_rfl) (fun _ h => by cases h) ipHalves_row_tie rfl ⟨rfl, rfl⟩ (by kernel_rfl) rfl
    (fun f fn hf hfn => by
      obtain rfl : f = 4 := Option.some.inj ((show Tryd.prog.funcNamed "herepath/herepathlaw1.IpHalves" = some 4 by kernel_rfl).symm.trans hf) |>.symm
      obtain rfl : fn = Tryd.f4 := (Option.some.inj (Tryd.func4.symm.trans hfn)).symm
      exact ⟨by kernel_rfl, fun j t ht => by
        rw [Tryd.params4] at ht
        have hm : t ∈ [36, 36, 3] := by simpa using Array.mem_of_getElem? ht
        have hall : ([36, 36, 3].all fun u => !Tryd.prog.wantsStandIn u) = true := by kernel_rfl
        exact (show Tryd.prog.wantsStandIn t = false by simpa using List.all_eq_true.1 hall t hm)⟩)
    (by kernel_rfl)
#print axioms halves_card
end Go.Proofs.YthehpnhjfnenoaaDoor
