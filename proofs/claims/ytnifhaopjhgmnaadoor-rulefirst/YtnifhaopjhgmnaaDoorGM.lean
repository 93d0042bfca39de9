/-
  RuleFirst: any rules, any route, any place.
  PROVED: herepathlaw2.RuleFirst returns true for whatever rules, every int as, every prefix (any two int's), whatever is told of a route (any two lists of int's, any three int's, whatever memory the lists share), and every int at: rules behind one that fits change nothing; one that does not fit changes nothing; one more for all denies nothing that was told on. (Where there are more than 9 rules, or Path has more than 20 systems or Tags more than 15, or at is no rule's place, the law itself looks at one closed fact alone.) Each argument reads afterwards as it read before. CONDITIONS: the listed package-level variables (four errors of package api; errors.errorType) read as the program's own initialisers lay them when the call begins: tied to the program's text by the given tie (the card 'Rows.RuleFirstCardSaid').
-/
import Derived.Test.YtnifhaopjhgmnaaDoorRuleFirst2
import Derived.Test.YtnifhaopjhgmnaaDoorCards
import Derived.Test.YtnifhaopjhgmnaaDoorTie
import Derived.Test.YtnifhaopjhgmnaaDoorGD
import Derived.Test.YtnifhaopjhgmnaaDoorLaid
import Derived.SevenTiedAt
import Derived.ChangeMaps5
namespace Go.Proofs.YtnifhaopjhgmnaaDoor
open Go.RowKit

theorem ruleFirst_any (p : Option Addr) (L : List Rl) (cp : Nat) (x ta tn n : Int) (v : Value) (A : At) (E : Nat → Addr) (m : Int) (w : World) (hE : RuleEnv w E m) (h : Rules w p L) (hkd : KindR p L.length cp) (hcap : L.length ≤ cp ∧ cp ≤ maxLen) (ha : AttrK w v A) :
    Calls Tryd.prog 3 #[.slice p L.length cp, .int .i64 x, .agg #[.int .i64 ta, .int .i64 tn], v, .int .i64 n] w fun r w' => r = .returned (.bool true) ∧ Below w.heap.size w w' := by
  by_cases ho : 9 < L.length ∨ longA A = true ∨ n < 0 ∨ (L.length : Int) ≤ n
  · exact first_out p L cp x ta tn n v A E m w hE ha ho
  · have h9 : L.length ≤ 9 := Nat.le_of_not_lt fun e => ho (.inl e)
    have hlg : longA A = false := by
      cases e : longA A with
      | true => exact absurd (.inr (.inl e)) ho
      | false => rfl
    have hn : 0 ≤ n := Int.le_of_not_gt fun e => ho (.inr (.inr (.inl e)))
    have hl : n < (L.length : Int) := Int.lt_of_not_ge fun e => ho (.inr (.inr (.inr e)))
    obtain ⟨k, rfl⟩ : ∃ k : Nat, n = k := ⟨n.toNat, by omega⟩
    have hk : k < L.length := by omega
    by_cases h0 : (rulesC L).1 = 0
    · cases hf : fitsB (ruleN L k) ta tn A with
      | true => exact first_fits p L cp x ta tn k v A E m w hE h hkd hcap ha h9 hlg hk h0 hf
      | false => exact first_misses p L cp x ta tn k v A E m w hE h hkd hcap ha h9 hlg hk h0 hf
    · exact first_wrong p L cp x ta tn k v A E m w hE h hkd hcap ha h9 hlg hk (by omega)
end Go.Proofs.YtnifhaopjhgmnaaDoor

namespace Go.Proofs.YtnifhaopjhgmnaaDoor
open Go.ChangeShapes Go.WideShapes Go.ChangeAt Go.RowKit Go.Joins Go.ChangeMaps

def fourR : List (String × List UInt8) := [("herepath/api.ErrBound", [104, 101, 114, 101, 112, 97, 116, 104, 58, 32, 98, 111, 117, 110, 100]), ("herepath/api.ErrShape", [104, 101, 114, 101, 112, 97, 116, 104, 58, 32, 115, 104, 97, 112, 101]), ("herepath/api.ErrFull", [104, 101, 114, 101, 112, 97, 116, 104, 58, 32, 102, 117, 108, 108]), ("herepath/api.ErrOrder", [104, 101, 114, 101, 112, 97, 116, 104, 58, 32, 111, 114, 100, 101, 114])]
theorem gnR0 : Tryd.prog.globalNamed "herepath/api.ErrBound" = some 1 := by kernel_rfl
theorem gnR1 : Tryd.prog.globalNamed "herepath/api.ErrShape" = some 2 := by kernel_rfl
theorem gnR2 : Tryd.prog.globalNamed "herepath/api.ErrFull" = some 0 := by kernel_rfl
theorem gnR3 : Tryd.prog.globalNamed "herepath/api.ErrOrder" = some 4 := by kernel_rfl
theorem fourR_named : ∀ x ∈ fourR, ∃ g, Tryd.prog.globalNamed x.1 = some g ∧ (Tryd.prog.globals[g]?).map (·.type) = some 31 := by
  intro x hx
  simp only [fourR, List.mem_cons, List.not_mem_nil, or_false] at hx
  rcases hx with rfl | rfl | rfl | rfl
  · exact ⟨_, gnR0, by kernel_rfl⟩
  · exact ⟨_, gnR1, by kernel_rfl⟩
  · exact ⟨_, gnR2, by kernel_rfl⟩
  · exact ⟨_, gnR3, by kernel_rfl⟩
def addrsR (b s f o : Addr) : Nat → Addr
  | 1 => b
  | 2 => s
  | 6 => f
  | _ => o
/-- What the row's condition gives. -/
theorem first_env {W : World} (h : laidMetH Tryd.prog Rows.ruleFirstRow.laid W) : ∃ E, RuleEnv W E 0 := by
  have h' : laidMet Tryd.prog (fourR.map (fun x => (x.1, errD x.2)) ++ []) W ∧ handlesMet Tryd.prog [("errors.errorType", Rows.laid_errors_errorType)] W := h
  obtain ⟨ps, hv, hnd, hrows⟩ := h'.1
  obtain ⟨az, -, -, -, hget⟩ := errs_of_laid fourR [] ps fourR_named hv hnd hrows
  obtain ⟨a0, -, e0, -⟩ := hget 0 _ rfl
  obtain ⟨a1, -, e1, -⟩ := hget 1 _ rfl
  obtain ⟨a2, -, e2, -⟩ := hget 2 _ rfl
  obtain ⟨a3, -, e3, -⟩ := hget 3 _ rfl
  exact ⟨addrsR a0 a1 a2 a3, ⟨by simpa [addrsR] using World.var?_cell gnR0 e0 0, by simpa [addrsR] using World.var?_cell gnR2 e2 0, by simpa [addrsR] using World.var?_cell gnR3 e3 0, handle_of h'.2 (List.mem_singleton.2 rfl)⟩, by simpa [addrsR] using World.var?_cell gnR1 e1 0⟩
theorem laidMet_layOn {P : Program} {w0 : World} {laid : List (String × DataW Unit)} (args : Array Value) (hf : w0.layFits P laid [] = true) (hi : w0.layIfaces P laid (w0.layVars P laid) = true) :
    laidMet P laid ((w0.layVars P laid).forCall (fun _ _ => 0) ⟨#[], args, []⟩).memory := by
  have e1 : (laid.filter fun x => (laid.map (·.1)).contains x.1) = laid := List.filter_eq_self.2 fun x hx => List.contains_iff_mem.2 (List.mem_map.2 ⟨x, hx, rfl⟩)
  have e2 : (laid.filter fun x => !(laid.map (·.1)).contains x.1) = [] := List.filter_eq_nil_iff.2 fun x hx => by rw [List.contains_iff_mem.2 (List.mem_map.2 ⟨x, hx, rfl⟩)]; simp
  have h : laidMet P laid (w0.layVars P laid) := laidMet_layVars (w0 := w0) (laid.map (·.1)) [] (by rw [e1]) (by rw [e1]; exact hf) (by rw [e1]; exact hi) (by rw [e2]; exact LaidIn.none)
  exact h.of_heap (by simp [World.memory, World.forCall, Input.heap])
set_option maxRecDepth 100000 in
theorem first_met (os : Os) (args : Array Value) : laidMetH Tryd.prog Rows.ruleFirstRow.laid ((((World.holding Tryd.prog os ⟨#[], #[], []⟩).setCell ⟨3, 0, none⟩ (.iface 97 (.agg #[.pointer (some ⟨5, 31, none⟩)]))).layVars Tryd.prog (Rows.ruleFirstRow.laid.filter fun x => x.2.handleName?.isNone)).forCall (fun _ _ => 0) ⟨#[], args, []⟩).memory :=
  laidMetH_of_parts3 (fuel := 8) (laidMet_layOn args (by kernel_rfl) (by kernel_rfl)) (by kernel_rfl) (by kernel_rfl)

set_option maxRecDepth 100000 in
theorem first_lifted (os : Os) (started : os.Started) (H : Type) (enc : TypeId × Value → H) :
    ReturnsInHanded {} Tryd.checked os 3 .any (fun w args => (Rows.ruleFirstSpec.pre enc Tryd.prog Tryd.f3 [] false w args ∧ laidMetH Tryd.prog Rows.ruleFirstRow.laid w) ∧ sizedMet enc Tryd.prog Tryd.f3 (OpenSpec.ofChange Rows.ruleFirstSpec) false w args)
      (Rows.ruleFirstSpec.post enc Tryd.prog Tryd.f3 false true false false) := by
  refine returns_shaped (C := Tryd.checked) (X := fun w _ => laidMetH Tryd.prog Rows.ruleFirstRow.laid w) (fun _ _ _ hh h => h.of_heap hh) own' started (by kernel_rfl) Tryd.func3
    (ChangeSpec.witness_shaped (enc := enc) (C := Tryd.checked) (os := os) (X := fun w _ => laidMetH Tryd.prog Rows.ruleFirstRow.laid w) false (((World.holding Tryd.prog os ⟨#[], #[], []⟩).setCell ⟨3, 0, none⟩ (.iface 97 (.agg #[.pointer (some ⟨5, 31, none⟩)]))).layVars Tryd.prog (Rows.ruleFirstRow.laid.filter fun x => x.2.handleName?.isNone)) #[.slice none 0 0, .int .i64 0, .agg #[.int .i64 0, .int .i64 0], .agg #[.slice none 0 0, .int .i64 0, .int .i64 0, .int .i64 0, .slice none 0 0], .int .i64 0] 8 (World.layVars_os _ _ _)
      (World.shaped_of_ZipB (by kernel_rfl) (by kernel_rfl)) (by kernel_rfl) (by kernel_rfl) (by kernel_rfl) (first_met os _)) ?_
  intro W base args ds gs before hval0 hW hL hsh
  have hval : ∀ (j : Nat) t v, Tryd.f3.params[j]? = some t → args[j]? = some v → Value.okWide Tryd.prog W .any base t v := hval0
  have hW' := hW
  obtain ⟨p, q, hA0, hV, rfl, hfz, hnd⟩ := hW
  have hA : DataW.TrodAll enc Tryd.prog W 0 (fun _ => true) true Tryd.f3.params.toList args.toList ds p := hA0
  rw [Tryd.params3] at hA hval
  obtain ⟨v0, vs0, d0, ds0, p0, q0, hargs, rfl, rfl, h0, r0⟩ := trodAll_cons hA
  obtain ⟨v1, vs1, d1, ds1, p1, q1, rfl, rfl, rfl, h1, r1⟩ := trodAll_cons r0
  obtain ⟨v2, vs2, d2, ds2, p2, q2, rfl, rfl, rfl, h2, r2⟩ := trodAll_cons r1
  obtain ⟨v3, vs3, d3, ds3, p3, q3, rfl, rfl, rfl, h3, r3⟩ := trodAll_cons r2
  obtain ⟨v4, vs4, d4, ds4, p4, q4, rfl, rfl, rfl, h4, r4⟩ := trodAll_cons r3
  obtain ⟨rfl, rfl, rfl⟩ := trodAll_nil r4
  obtain rfl : args = #[v0, v1, v2, v3, v4] := by cases args; simp_all
  obtain ⟨rfl, rfl⟩ := trodVars_none hV
  have h0k := h0
  have h3k := h3
  have hlt0 : ∀ x ∈ p0, x.block < W.heap.size := fun x hx => by
    have := hW'.lt x (by simp [hx])
    simpa using this
  have hlt3 : ∀ x ∈ p3, x.block < W.heap.size := fun x hx => by
    have := hW'.lt x (by simp [hx])
    simpa using this
  obtain ⟨q, L, cap, rfl, hR, hK, hc1, hc2⟩ := open_rules2 (hval 0 22 v0 rfl rfl) h0
  obtain ⟨x1, rfl, rfl, rfl, wx1⟩ := open_int Tryd.underlying3 (hval 1 3 v1 rfl rfl) h1
  obtain ⟨ta, tn, rfl, rfl, rfl, wa, wn⟩ := open_prefix (hval 2 24 v2 rfl rfl) h2
  obtain ⟨A, hk⟩ := open_attr (hval 3 27 v3 rfl rfl) h3
  obtain ⟨x4, rfl, rfl, rfl, wx4⟩ := open_int Tryd.underlying3 (hval 4 3 v4 rfl rfl) h4
  obtain ⟨E, hE⟩ := first_env hL
  clear hA0 hval0
  have e1 : Rows.ruleFirstSpec.fn H ([d0, .lit (.int .i64 x1), .agg [.lit (.int .i64 ta), .lit (.int .i64 tn)], d3, .lit (.int .i64 x4)] ++ []) = { results := [.lit (.bool true)], args := [d0, .lit (.int .i64 x1), .agg [.lit (.int .i64 ta), .lit (.int .i64 tn)], d3, .lit (.int .i64 x4)] } := by simp [Rows.ruleFirstSpec]
  refine (ruleFirst_any q L cap x1 ta tn x4 v3 A E 0 W hE hR hK ⟨hc1, hc2⟩ hk).mono fun e W' ⟨he, hb⟩ => ?_
  subst he
  refine ⟨_, rfl, _, _, _, [], p0 ++ ([] ++ ([] ++ (p3 ++ []))), [], hW', ?_, ?_, ?_, hb.frame _, fun h => by cases h⟩
  · rw [e1]; exact trodAll_mk1 (shut_bool Tryd.underlying4 true)
  · rw [e1]
    exact trodAll_cons_mk (Below.trod laidOutF (by kernel_rfl) (of_decide_eq_true (by kernel_rfl)) h0k hb (fun x hx => hlt0 x hx)) (trodAll_cons_mk (shut_int Tryd.underlying3 wx1) (trodAll_cons_mk (shut_prefix wa wn) (trodAll_cons_mk (Below.trod laidOutF (by kernel_rfl) (of_decide_eq_true (by kernel_rfl)) h3k hb (fun x hx => hlt3 x hx)) (trodAll_mk1 (shut_int Tryd.underlying3 wx4)))))
  · rw [e1]; rfl

theorem first_holds : Rows.RuleFirstSaid :=
  OpenClaim.holds_of_wide 3 Tryd.f3 rfl rfl rfl rfl rfl rfl rfl ⟨rfl, rfl, rfl, rfl, rfl⟩ rfl rfl rfl rfl rfl (by kernel_rfl) Tryd.func3 (by kernel_rfl)
    (of_decide_eq_true (by kernel_rfl)) (by unfold Func.isWrapper; rw [if_neg (of_decide_eq_false (by kernel_rfl))]; exact ⟨rfl, rfl⟩)
    (fun os started H enc _ => first_lifted os started H enc)

theorem first_card : Rows.RuleFirstCardSaid :=
  Claim7.holds_tied_plain_at .later [] _ _ _ _
    first_holds (fun _ h => by cases h) (by kernel_rfl) (fun _ h => by cases h) ruleFirst_row_tie rfl ⟨rfl, rfl⟩ (by kernel_rfl) rfl
    (fun f fn hf hfn => by
      obtain rfl : f = 3 := Option.some.inj ((show Tryd.prog.funcNamed "herepath/herepathlaw2.RuleFirst" = some 3 by kernel_rfl).symm.trans hf) |>.symm
      obtain rfl : fn = Tryd.f3 := (Option.some.inj (Tryd.func3.symm.trans hfn)).symm
      exact ⟨by kernel_rfl, fun j t ht => by
        rw [Tryd.params3] at ht
        have hm : t ∈ [22, 3, 24, 27, 3] := by simpa using Array.mem_of_getElem? ht
        have hall : ([22, 3, 24, 27, 3].all fun u => !Tryd.prog.wantsStandIn u) = true := by kernel_rfl
        exact (show Tryd.prog.wantsStandIn t = false by simpa using List.all_eq_true.1 hall t hm)⟩)
    (by kernel_rfl)
#print axioms first_card
end Go.Proofs.YtnifhaopjhgmnaaDoor
