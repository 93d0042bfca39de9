/-
  PROVED: herepathlaw1.IpOrder returns true for every three prefixes p, q, s (whatever two int's each): of two right prefixes one is ahead, or they are one; what is in one is not ahead of it; between one and what is in it stands nothing apart from it. Each argument reads afterwards as it read before. CONDITIONS: the listed package-level variables (ErrText, ErrBound, ErrShape of package api; tables of math/bits, internal/strconv and unicode/utf8) read as the program's own initialisers lay them when the call begins: tied to the program's text by the given tie (the card 'Rows.IpOrderCardSaid').
-/
import Derived.Test.YthehpnhjfnenoaaDoorCards
import Derived.Test.YthehpnhjfnenoaaDoorTie
import Derived.Test.YthehpnhjfnenoaaDoorIpRow
import Derived.Test.YthehpnhjfnenoaaDoorOrderA1
import Derived.Test.YthehpnhjfnenoaaDoorOrderA2
import Derived.Test.YthehpnhjfnenoaaDoorOrderA3
import Derived.Test.YthehpnhjfnenoaaDoorOrderB1
import Derived.Test.YthehpnhjfnenoaaDoorOrderB2
import Derived.Test.YthehpnhjfnenoaaDoorOrderB3
import Derived.SevenTiedAt
namespace Go.Proofs.YthehpnhjfnenoaaDoor
open Go.ChangeShapes Go.WideShapes Go.ChangeAt Go.RowKit Go.Joins

/-- The law at three right prefixes, the first two unlike. -/
theorem order_right (pa pn qa qn sa sn : Int) (et eb es : Addr) (m : Int) (w : World) (h : IpEnv w et eb es m) (hp : rt pa pn = true) (hq : rt qa qn = true) (hs : rt sa sn = true) (hne : ¬ (pa = qa ∧ pn = qn)) :
    Calls Tryd.prog 6 #[.agg #[.int .i64 pa, .int .i64 pn], .agg #[.int .i64 qa, .int .i64 qn], .agg #[.int .i64 sa, .int .i64 sn]] w fun e w' => e = .returned (.bool true) ∧ Below w.heap.size w w' := by
  have cp := chk_nil pa pn eb es hp
  have cq := chk_nil qa qn eb es hq
  have cs := chk_nil sa sn eb es hs
  rcases less_one hp hq hne with ⟨h1, h2⟩ | ⟨h1, h2⟩
  · have h3 : inB pa pn qa qn = false := by
      rw [Bool.eq_false_iff]; intro hi
      have := in_less hp hq hne hi
      rw [h2] at this; cases this
    cases h4 : lessB qa qn sa sn with
    | false =>
      by_cases ha : pa = qa
      · subst ha; exact order_A1' pa pn qn sa sn et eb es m w h cp cq cs (fun e => hne ⟨rfl, e⟩) h1 h2 h3 h4
      · exact order_A1 pa pn qa qn sa sn et eb es m w h cp cq cs ha h1 h2 h3 h4
    | true =>
      have h5 := less_trans hp hq hs h1 h4
      cases h6 : inB sa sn pa pn with
      | false =>
        by_cases ha : pa = qa
        · subst ha; exact order_A2' pa pn qn sa sn et eb es m w h cp cq cs (fun e => hne ⟨rfl, e⟩) h1 h2 h3 h4 h5 h6
        · exact order_A2 pa pn qa qn sa sn et eb es m w h cp cq cs ha h1 h2 h3 h4 h5 h6
      | true =>
        have h7 := between hp hq hs h1 h4 h6
        by_cases ha : pa = qa
        · subst ha; exact order_A3' pa pn qn sa sn et eb es m w h cp cq cs (fun e => hne ⟨rfl, e⟩) h1 h2 h3 h4 h5 h6 h7
        · exact order_A3 pa pn qa qn sa sn et eb es m w h cp cq cs ha h1 h2 h3 h4 h5 h6 h7
  · cases h3 : inB pa pn qa qn with
    | false =>
      by_cases ha : pa = qa
      · subst ha; exact order_B1' pa pn qn sa sn et eb es m w h cp cq cs (fun e => hne ⟨rfl, e⟩) h1 h2 h3
      · exact order_B1 pa pn qa qn sa sn et eb es m w h cp cq cs ha h1 h2 h3
    | true =>
      cases h4 : inB qa qn sa sn with
      | false =>
        by_cases ha : pa = qa
        · subst ha; exact order_B2' pa pn qn sa sn et eb es m w h cp cq cs (fun e => hne ⟨rfl, e⟩) h1 h2 h3 h4
        · exact order_B2 pa pn qa qn sa sn et eb es m w h cp cq cs ha h1 h2 h3 h4
      | true =>
        have h5 := in_trans hp hq hs h3 h4
        by_cases ha : pa = qa
        · subst ha; exact order_B3' pa pn qn sa sn et eb es m w h cp cq cs (fun e => hne ⟨rfl, e⟩) h1 h2 h3 h4 h5
        · exact order_B3 pa pn qa qn sa sn et eb es m w h cp cq cs ha h1 h2 h3 h4 h5
theorem order_any (pa pn qa qn sa sn : Int) (et eb es : Addr) (m : Int) (w : World) (h : IpEnv w et eb es m) :
    Calls Tryd.prog 6 #[.agg #[.int .i64 pa, .int .i64 pn], .agg #[.int .i64 qa, .int .i64 qn], .agg #[.int .i64 sa, .int .i64 sn]] w fun e w' => e = .returned (.bool true) ∧ Below w.heap.size w w' := by
  cases hp : rt pa pn with
  | false => exact order_not pa pn qa qn sa sn et eb es m w h (Or.inl hp)
  | true =>
    cases hq : rt qa qn with
    | false => exact order_not pa pn qa qn sa sn et eb es m w h (Or.inr (Or.inl hq))
    | true =>
      cases hs : rt sa sn with
      | false => exact order_not pa pn qa qn sa sn et eb es m w h (Or.inr (Or.inr hs))
      | true =>
        by_cases hne : pa = qa ∧ pn = qn
        · exact order_same pa pn qa qn sa sn et eb es m w h hp hs hne.1.symm hne.2.symm
        · exact order_right pa pn qa qn sa sn et eb es m w h hp hq hs hne

/-- What the row's condition gives. -/
theorem order_env {W : World} (h : laidMetH Tryd.prog Rows.ipOrderRow.laid W) (hsh : W.ShapedOpen Tryd.prog) : ∃ et eb es m, IpEnv W et eb es m := by
  have h0 : laidMet Tryd.prog Rows.ipOrderRow.laid W := by rw [MakeChecks.laidMetH_plain _ _ _ (by kernel_rfl)] at h; exact h
  have h2 := laidMet.tail (laidMet.tail h0)
  obtain ⟨et, eb, es, hE, hT⟩ := ipErrs_of [("unicode/utf8.first", Rows.laid_unicode_utf8_first)] (laidMet.tail (laidMet.tail h2))
  obtain ⟨m, hm⟩ := max_of hsh
  exact ⟨et, eb, es, m, hE, hm, tab_of h2, hT⟩

set_option maxRecDepth 100000 in
theorem order_met (os : Os) (args : Array Value) : laidMetH Tryd.prog Rows.ipOrderRow.laid ((World.laidAll Tryd.prog os Rows.ipOrderRow.laid).forCall (fun _ _ => 0) ⟨#[], args, []⟩).memory := by
  rw [MakeChecks.laidMetH_plain _ _ _ (by kernel_rfl)]
  exact laidMet_laidAll _ (by kernel_rfl) (by kernel_rfl)

set_option maxRecDepth 100000 in
theorem order_lifted (os : Os) (started : os.Started) (H : Type) (enc : TypeId × Value → H) :
    ReturnsInHanded {} Tryd.checked os 6 .any (fun w args => (Rows.ipOrderSpec.pre enc Tryd.prog Tryd.f6 [] false w args ∧ laidMetH Tryd.prog Rows.ipOrderRow.laid w) ∧ sizedMet enc Tryd.prog Tryd.f6 (OpenSpec.ofChange Rows.ipOrderSpec) false w args)
      (Rows.ipOrderSpec.post enc Tryd.prog Tryd.f6 false true false false) := by
  refine returns_shaped (C := Tryd.checked) (X := fun w _ => laidMetH Tryd.prog Rows.ipOrderRow.laid w) (fun _ _ _ hh h => h.of_heap hh) own' started (by kernel_rfl) Tryd.func6
    (ChangeSpec.witness_shaped (enc := enc) (C := Tryd.checked) (os := os) (X := fun w _ => laidMetH Tryd.prog Rows.ipOrderRow.laid w) false (World.laidAll Tryd.prog os Rows.ipOrderRow.laid) #[.agg #[.int .i64 0, .int .i64 0], .agg #[.int .i64 0, .int .i64 0], .agg #[.int .i64 0, .int .i64 0]] 8 (World.laidAll_os _ _ _)
      (World.shaped_of_ZipB (by kernel_rfl) (by kernel_rfl)) (by kernel_rfl) (by kernel_rfl) (by kernel_rfl) (order_met os _)) ?_
  intro W base args ds gs before hval0 hW hL hsh
  have hval : ∀ (j : Nat) t v, Tryd.f6.params[j]? = some t → args[j]? = some v → Value.okWide Tryd.prog W .any base t v := hval0
  have hW' := hW
  obtain ⟨p, q, hA0, hV, rfl, hfz, hnd⟩ := hW
  have hA : DataW.TrodAll enc Tryd.prog W 0 (fun _ => true) true Tryd.f6.params.toList args.toList ds p := hA0
  rw [Tryd.params6] at hA hval
  obtain ⟨v0, v1, v2, d0, d1, d2, p0, p1, p2, rfl, rfl, rfl, h0, h1, h2⟩ := trodAll_three hA
  obtain ⟨rfl, rfl⟩ := trodVars_none hV
  obtain ⟨pa, pn, rfl, rfl, rfl, wp0, wp1⟩ := open_prefix (hval 0 36 v0 rfl rfl) h0
  obtain ⟨qa, qn, rfl, rfl, rfl, wq0, wq1⟩ := open_prefix (hval 1 36 v1 rfl rfl) h1
  obtain ⟨sa, sn, rfl, rfl, rfl, ws0, ws1⟩ := open_prefix (hval 2 36 v2 rfl rfl) h2
  obtain ⟨et, eb, es, m, hE⟩ := order_env hL hsh
  clear hA0 hval0
  have e1 : Rows.ipOrderSpec.fn H ([.agg [.lit (.int .i64 pa), .lit (.int .i64 pn)], .agg [.lit (.int .i64 qa), .lit (.int .i64 qn)], .agg [.lit (.int .i64 sa), .lit (.int .i64 sn)]] ++ []) = { results := [.lit (.bool true)], args := [.agg [.lit (.int .i64 pa), .lit (.int .i64 pn)], .agg [.lit (.int .i64 qa), .lit (.int .i64 qn)], .agg [.lit (.int .i64 sa), .lit (.int .i64 sn)]] } := by simp [Rows.ipOrderSpec]
  refine (order_any pa pn qa qn sa sn et eb es m W hE).mono fun e W' ⟨he, hb⟩ => ?_
  subst he
  refine ⟨_, rfl, _, _, _, [], [], [], hW', ?_, ?_, ?_, hb.frame _, fun h => by cases h⟩
  · rw [e1]; exact trodAll_mk1 (shut_bool Tryd.underlying4 true)
  · rw [e1]; exact trodAll_mk3 (shut_prefix wp0 wp1) (shut_prefix wq0 wq1) (shut_prefix ws0 ws1)
  · rw [e1]; rfl

theorem order_holds : Rows.IpOrderSaid :=
  OpenClaim.holds_of_wide 6 Tryd.f6 rfl rfl rfl rfl rfl rfl rfl ⟨rfl, rfl, rfl, rfl, rfl⟩ rfl rfl rfl rfl rfl (by kernel_rfl) Tryd.func6 (by kernel_rfl)
    (of_decide_eq_true (by kernel_rfl)) (by unfold Func.isWrapper; rw [if_neg (of_decide_eq_false (by kernel_rfl))]; exact ⟨rfl, rfl⟩)
    (fun os started H enc _ => order_lifted os started H enc)

theorem order_card : Rows.IpOrderCardSaid :=
  Claim7.holds_tied_plain_at .later [] _ _ _ _
    order_holds (fun _ h => by cases h) (by kernel_rfl) (fun _ h => by cases h) ipOrder_row_tie rfl ⟨rfl, rfl⟩ (by kernel_rfl) rfl
    (fun f fn hf hfn => by
      obtain rfl : f = 6 := Option.some.inj ((show Tryd.prog.funcNamed "herepath/herepathlaw1.IpOrder" = some 6 by kernel_rfl).symm.trans hf) |>.symm
      obtain rfl : fn = Tryd.f6 := (Option.some.inj (Tryd.func6.symm.trans hfn)).symm
      exact ⟨by kernel_rfl, fun j t ht => by
        rw [Tryd.params6] at ht
        have hm : t ∈ [36, 36, 36] := by simpa using Array.mem_of_getElem? ht
        have hall : ([36, 36, 36].all fun u => !Tryd.prog.wantsStandIn u) = true := by kernel_rfl
        exact (show Tryd.prog.wantsStandIn t = false by simpa using List.all_eq_true.1 hall t hm)⟩)
    (by kernel_rfl)
#print axioms order_card
end Go.Proofs.YthehpnhjfnenoaaDoor
