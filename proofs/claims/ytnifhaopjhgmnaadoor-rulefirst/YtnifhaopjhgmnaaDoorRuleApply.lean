/-
  Package rule's Apply: what it returns.
-/
import Derived.Test.YtnifhaopjhgmnaaDoorRuleApp0
namespace Go.Proofs.YtnifhaopjhgmnaaDoor
open Go.RowKit

set_option linter.unusedSimpArgs false in
set_option linter.unusedVariables false in
set_option maxRecDepth 100000 in
set_option maxHeartbeats 8000000 in
theorem apply_made (p : Option Addr) (L : List Rl) (cp : Nat) (x ta tn : Int) (v : Value) (A : At) (E : Nat → Addr) (m : Int) (w : World) (hE : RuleEnv w E m) (h : Rules w p L) (ha : AttrK w v A) (hl : L.length ≤ 1000000) (h1 : A.path.length ≤ 1000) (h2 : A.tags.length ≤ 1000)
    (hc : ¬ 0 < (allC L ta tn A).1) (hn : ¬ L.length = 0) (hk : fitK L ta tn A < L.length) (hd : (ruleN L (fitK L ta tn A)).deny = false) :
    Calls Tryd.prog 6 #[.slice p L.length cp, .int .i64 x, .agg #[.int .i64 ta, .int .i64 tn], v] w fun r w' => (∃ v' u, r = .returned (.tuple #[v', .bool (decide (madeC (ruleN L (fitK L ta tn A)) x A = 0)), u]) ∧ AttrG w' v' (if madeC (ruleN L (fitK L ta tn A)) x A = 0 then madeA (ruleN L (fitK L ta tn A)) x A else noneA) w.heap.size ∧ IsErr w' E u (madeC (ruleN L (fitK L ta tn A)) x A) (-1)) ∧ Below w.heap.size w w' := by
  have ha0 := ha
  obtain ⟨p0, cp0, q0, cq0, rfl, i1, i2, k1, k2⟩ := ha
  obtain ⟨HC⟩ : Nonempty (Hid (∀ w', Below w.heap.size w w' → Calls _ _ _ _ _)) := ⟨fun w' hb => checkAll_any p L cp ta tn (.agg #[.slice p0 A.path.length cp0, .int .i64 A.pref, .int .i64 A.med, .int .i64 A.org, .slice q0 A.tags.length cq0]) A E m w' (hE.below hb) (h.below hb) (ha0.below hb).attr hl (by omega) (by omega)⟩
  have hc0 : (allC L ta tn A).1 = 0 := by omega
  simp only [hc0] at HC
  obtain ⟨HIX⟩ : Nonempty (Hid (∀ w', PB w w' w.heap.size ta tn #[.slice p0 A.path.length cp0, .int .i64 A.pref, .int .i64 A.med, .int .i64 A.org, .slice q0 A.tags.length cq0] #[.slice none 0 0, .int .i64 0, .int .i64 0, .int .i64 0, .slice none 0 0] → Calls Tryd.prog 14 #[.slice p L.length cp, .func (.func 15) #[] #[.pointer (some ⟨w.heap.size, 0, none⟩), .pointer (some ⟨w.heap.size + 1, 0, none⟩)]] w' fun e w'' => e = .returned (.int .i64 (idxR (fun r => fitsB r ta tn A) L)) ∧ Below w'.heap.size w' w'')) := ⟨fun w' hp => by
    refine index_any p L cp _ _ (fun r => fitsB r ta tn A) w' (h.below hp.2.2.2) ⟨enters_apply, fun r W hb => ?_⟩ hl
    have hbW := hp.2.2.2.trans (hb.mono (by have := hp.size; omega))
    have hpW := hp.on hb
    exact asked_fits r ta tn (.agg #[.slice p0 A.path.length cp0, .int .i64 A.pref, .int .i64 A.med, .int .i64 A.org, .slice q0 A.tags.length cq0]) A p0 cp0 q0 cq0 w.heap.size (w.heap.size + 1) E m W (hE.below hbW) (i1.below hbW) (i2.below hbW) (by omega) (by omega) hpW.1 hpW.2.1⟩
  obtain ⟨K, hK⟩ : ∃ k, Hid (fitK L ta tn A = k) := ⟨_, show _ = _ from rfl⟩
  have hix : idxR (fun r => fitsB r ta tn A) L = if K < L.length then (K : Int) else -1 := by
    rw [← show fitK L ta tn A = K from hK.out]; rfl
  simp only [hix] at HIX
  rw [show fitK L ta tn A = K from hK.out] at hk hd
  simp only [if_pos hk] at HIX
  obtain ⟨HRK⟩ : Nonempty (Hid (∃ b o, p = some ⟨b, o, none⟩ ∧ ∀ w', Below w.heap.size w w' → RuleAt w' b (o + K * 11) (ruleN L K))) := ⟨by
    obtain ⟨b, o, e, c⟩ := h K hk
    exact ⟨b, o, e, fun w' hb => by rw [ruleN_at L K hk]; exact c.below hb⟩⟩
  obtain ⟨r, hr⟩ : ∃ r, Hid (ruleN L K = r) := ⟨_, show _ = _ from rfl⟩
  rw [show ruleN L K = r from hr.out] at HRK hd
  have q3 : (K : Int) < L.length := by omega
  have q4 : decide ((K : Int) < 0) = false := decide_eq_false (by omega)
  have hn' : ((L.length : Int) == 0) = false := by rw [beq_eq_false_iff_ne]; omega
  obtain ⟨HMD⟩ : Nonempty (Hid (∀ w', Below w.heap.size w w' → Calls _ _ _ _ _)) := ⟨fun w' hb => made_any r x (.agg #[.slice p0 A.path.length cp0, .int .i64 A.pref, .int .i64 A.med, .int .i64 A.org, .slice q0 A.tags.length cq0]) A E m w' (hE.at1.below hb) (ha0.below hb) h1 h2⟩
  unfold rlV at HMD
  simp only [hd] at HMD
  rw [show fitK L ta tn A = K from hK.out, show ruleN L K = r from hr.out]
  obtain ⟨cm, hcm⟩ : ∃ c, Hid (madeC r x A = c) := ⟨_, show _ = _ from rfl⟩
  obtain ⟨AM, hAM⟩ : ∃ c, Hid ((if madeC r x A = 0 then madeA r x A else noneA) = c) := ⟨_, show _ = _ from rfl⟩
  simp only [show (if madeC r x A = 0 then madeA r x A else noneA) = AM from hAM.out] at HMD ⊢
  simp only [show madeC r x A = cm from hcm.out] at HMD ⊢
  obtain ⟨um, hum⟩ : ∃ u, Hid (ev E cm = u) := ⟨_, show _ = _ from rfl⟩
  simp only [show ev E cm = um from hum.out] at HMD

  obtain ⟨HP⟩ : Nonempty (Hid (PB w _ w.heap.size ta tn #[.slice p0 A.path.length cp0, .int .i64 A.pref, .int .i64 A.med, .int .i64 A.org, .slice q0 A.tags.length cq0] #[.slice none 0 0, .int .i64 0, .int .i64 0, .int .i64 0, .slice none 0 0])) := ⟨pb_start w ta tn _ _⟩
  obtain ⟨W0, hW0⟩ : ∃ W0, Hid (((w.alloc (.cells #[.int .i64 ta, .int .i64 tn] 24)).alloc (.cells #[.slice p0 A.path.length cp0, .int .i64 A.pref, .int .i64 A.med, .int .i64 A.org, .slice q0 A.tags.length cq0] 27)).alloc (.cells #[.slice none 0 0, .int .i64 0, .int .i64 0, .int .i64 0, .slice none 0 0] 27) = W0) := ⟨_, show _ = _ from rfl⟩
  rw [show ((w.alloc (.cells #[.int .i64 ta, .int .i64 tn] 24)).alloc (.cells #[.slice p0 A.path.length cp0, .int .i64 A.pref, .int .i64 A.med, .int .i64 A.org, .slice q0 A.tags.length cq0] 27)).alloc (.cells #[.slice none 0 0, .int .i64 0, .int .i64 0, .int .i64 0, .slice none 0 0] 27) = W0 from hW0.out] at HP
  obtain ⟨B, hB⟩ : ∃ B, Hid (w.heap.size = B) := ⟨_, show _ = _ from rfl⟩
  clear hE h h1 h2 i1 i2 k1 k2 ha0 hc hc0 hn hix hK hr hcm hAM
  go_enter Tryd.func6, Tryd.ntmps6
  go_wp2_with fail
  rw [show ((w.alloc (.cells #[.int .i64 ta, .int .i64 tn] 24)).alloc (.cells #[.slice p0 A.path.length cp0, .int .i64 A.pref, .int .i64 A.med, .int .i64 A.org, .slice q0 A.tags.length cq0] 27)).alloc (.cells #[.slice none 0 0, .int .i64 0, .int .i64 0, .int .i64 0, .slice none 0 0] 27) = W0 from hW0.out]
  clear hW0
  rw [show w.heap.size = B from hB.out] at HP HIX HRK HMD ⊢
  refine (HC.out W0 (by first | exact HP.out.2.2.2 | (rw [show w.heap.size = B from hB.out]; exact HP.out.2.2.2))).mono ?_
  rintro e w1 ⟨⟨u1, rfl, hu1⟩, hb1⟩
  obtain ⟨HP1⟩ : Nonempty (Hid (PB w w1 B ta tn #[.slice p0 A.path.length cp0, .int .i64 A.pref, .int .i64 A.med, .int .i64 A.org, .slice q0 A.tags.length cq0] #[.slice none 0 0, .int .i64 0, .int .i64 0, .int .i64 0, .slice none 0 0])) := ⟨HP.out.on hb1⟩
  clear HP hb1 HC
  obtain ⟨-, rfl⟩ : _ ∧ u1 = .nilIface := by
    rcases isErr_cases hu1 with h | ⟨h, -⟩
    · exact h
    · omega
  clear hu1
  go_wp2_with fail
  refine (HIX.out w1 HP1.out).mono ?_
  rintro e w2 ⟨rfl, hb2⟩
  obtain ⟨HP2⟩ : Nonempty (Hid (PB w w2 B ta tn #[.slice p0 A.path.length cp0, .int .i64 A.pref, .int .i64 A.med, .int .i64 A.org, .slice q0 A.tags.length cq0] #[.slice none 0 0, .int .i64 0, .int .i64 0, .int .i64 0, .slice none 0 0])) := ⟨HP1.out.on hb2⟩
  clear hb2 HIX HP1
  obtain ⟨b, o, rfl, hx⟩ := HRK.out
  obtain ⟨c0, c1, c2, c3, c4, c5, c6, c7, c8, c9, c10⟩ := (hx w2 HP2.out.2.2.2).cells
  rw [hd] at c6
  go_upto_region 9 with fail
  obtain ⟨x0, hx0⟩ : ∃ y, Hid (w2 = y) := ⟨_, show _ = _ from rfl⟩
  obtain ⟨HQ0⟩ : Nonempty (Hid (PB w x0.drew B ta tn #[.slice p0 A.path.length cp0, .int .i64 A.pref, .int .i64 A.med, .int .i64 A.org, .slice q0 A.tags.length cq0] #[.slice none 0 0, .int .i64 0, .int .i64 0, .int .i64 0, .slice none 0 0])) := ⟨by rw [← show w2 = x0 from hx0.out]; exact HP2.out.on (Below.refl _ _).drew⟩
  rw [show w2 = x0 from hx0.out]
  clear hx0 HP2 c0 c1 c2 c3 c4 c5 c6 c7 c8 c9 c10
  go_cut [13, 14] from 15 (fun s13 s14 w' => ∃ (O : Nat) (p5 : Option Addr) (cp5 : Nat) (q5 : Option Addr) (cq5 : Nat) (W : World), s13 = .pointer (some ⟨O, 0, none⟩) ∧ s14 = ev E cm ∧ Hid (PB w W B ta tn #[.slice p0 A.path.length cp0, .int .i64 A.pref, .int .i64 A.med, .int .i64 A.org, .slice q0 A.tags.length cq0] #[.slice none 0 0, .int .i64 0, .int .i64 0, .int .i64 0, .slice none 0 0] ∧ W.heap[O]? = some (.cells #[.slice p5 AM.path.length cp5, .int .i64 AM.pref, .int .i64 AM.med, .int .i64 AM.org, .slice q5 AM.tags.length cq5] 27 (0, 0)) ∧ B + 2 < O ∧ AttrG W (.agg #[.slice p5 AM.path.length cp5, .int .i64 AM.pref, .int .i64 AM.med, .int .i64 AM.org, .slice q5 AM.tags.length cq5]) AM (B + 3)) ∧ W = w')
  case first J0 K0 hJ0 hK0 =>
    refine wp_region_noPanic ?_
    refine wp_region_held_drew (S := (fun w' => PB w w' B ta tn #[.slice p0 A.path.length cp0, .int .i64 A.pref, .int .i64 A.med, .int .i64 A.org, .slice q0 A.tags.length cq0] #[.slice none 0 0, .int .i64 0, .int .i64 0, .int .i64 0, .slice none 0 0] ∧ RuleAt w' b (o + K * 11) r)) (by kernel_rfl) ?_ (fun hHeld => ?_)
    · exact ⟨HQ0.out, hx x0.drew HQ0.out.2.2.2⟩
    refine wpAnyH_take (i := 0) (v := ?_) rfl (by kernel_rfl) (by kernel_rfl) (by kernel_rfl) (fun _ _ _ h => h) (Or.inl ⟨by rfl, ?_⟩) (by assumption) ?_
    rotate_left
    · (intro w hSw; (try dsimp only at hSw); go_simp; try (with_reducible rfl))
    try simp only [Act.put, List.setIfInBounds_toArray, List.set_cons_zero, List.set_cons_succ, List.getElem_toArray, List.getElem_cons_zero, List.getElem_cons_succ]
    refine wpAnyH_take (i := 1) (v := ?_) rfl (by kernel_rfl) (by kernel_rfl) (by kernel_rfl) (fun _ _ _ h => h) (Or.inl ⟨by rfl, ?_⟩) (by assumption) ?_
    rotate_left
    · (intro w hSw; (try dsimp only at hSw); go_simp; try (with_reducible rfl))
    try simp only [Act.put, List.setIfInBounds_toArray, List.set_cons_zero, List.set_cons_succ, List.getElem_toArray, List.getElem_cons_zero, List.getElem_cons_succ]
    refine wpAnyH_take (i := 2) (v := ?_) rfl (by kernel_rfl) (by kernel_rfl) (by kernel_rfl) (fun _ _ _ h => h) (Or.inl ⟨by rfl, ?_⟩) (by assumption) ?_
    rotate_left
    · (intro w hSw; (try dsimp only at hSw); go_simp; try (with_reducible rfl))
    try simp only [Act.put, List.setIfInBounds_toArray, List.set_cons_zero, List.set_cons_succ, List.getElem_toArray, List.getElem_cons_zero, List.getElem_cons_succ]
    refine wpAnyH_take (i := 3) (v := ?_) rfl (by kernel_rfl) (by kernel_rfl) (by kernel_rfl) (fun _ _ _ h => h) (Or.inl ⟨by rfl, ?_⟩) (by assumption) ?_
    rotate_left
    · intro w' hSw
      obtain ⟨hS1, hS2⟩ := hSw
      obtain ⟨e0, e1, e2, e3, e4⟩ := hS1.arg
      obtain ⟨f0, f1, f2, f3, f4, f5, f6, f7, f8, f9, f10⟩ := hS2.cells
      go_simp
      try (with_reducible rfl)
    try simp only [Act.put, List.setIfInBounds_toArray, List.set_cons_zero, List.set_cons_succ, List.getElem_toArray, List.getElem_cons_zero, List.getElem_cons_succ]
    refine wpAnyH_take (i := 4) (v := ?_) rfl (by kernel_rfl) (by kernel_rfl) (by kernel_rfl) (fun _ _ _ h => h) (Or.inl ⟨by rfl, ?_⟩) (by assumption) ?_
    rotate_left
    · (intro w hSw; (try dsimp only at hSw); go_simp; try (with_reducible rfl))
    try simp only [Act.put, List.setIfInBounds_toArray, List.set_cons_zero, List.set_cons_succ, List.getElem_toArray, List.getElem_cons_zero, List.getElem_cons_succ]
    refine wpAnyH_take (i := 5) (v := ?_) rfl (by kernel_rfl) (by kernel_rfl) (by kernel_rfl) (fun _ _ _ h => h) (Or.inl ⟨by rfl, ?_⟩) (by assumption) ?_
    rotate_left
    · intro w' hSw
      obtain ⟨hS1, hS2⟩ := hSw
      obtain ⟨e0, e1, e2, e3, e4⟩ := hS1.arg
      obtain ⟨f0, f1, f2, f3, f4, f5, f6, f7, f8, f9, f10⟩ := hS2.cells
      go_simp
      try (with_reducible rfl)
    try simp only [Act.put, List.setIfInBounds_toArray, List.set_cons_zero, List.set_cons_succ, List.getElem_toArray, List.getElem_cons_zero, List.getElem_cons_succ]
    refine wpAnyH_ready (rs := [6, 10]) (by kernel_rfl) (by simp) ?_
    refine (AllReadyH.cons rfl (fun K2 hK => ?_) (AllReadyH.cons rfl (fun K2 hK => ?_) AllReadyH.nil))
    · skip
      go_simp
      refine (HMD.out x0.drew (by first | exact HQ0.out.2.2.2 | (rw [show w.heap.size = B from hB.out]; exact HQ0.out.2.2.2))).mono ?_
      rintro e x1 ⟨⟨v5, rfl, hg5⟩, hb5⟩
      obtain ⟨p5, cp5, q5, cq5, rfl, i1, i2, k1, k2, m1, m2⟩ := hg5
      obtain ⟨HQ1⟩ : Nonempty (Hid (PB w x1 B ta tn #[.slice p0 A.path.length cp0, .int .i64 A.pref, .int .i64 A.med, .int .i64 A.org, .slice q0 A.tags.length cq0] #[.slice none 0 0, .int .i64 0, .int .i64 0, .int .i64 0, .slice none 0 0])) := ⟨HQ0.out.on hb5⟩
      obtain ⟨HG0⟩ : Nonempty (Hid (AttrG x1 (.agg #[.slice p5 AM.path.length cp5, .int .i64 AM.pref, .int .i64 AM.med, .int .i64 AM.org, .slice q5 AM.tags.length cq5]) AM (B + 3) ∧ True)) := ⟨⟨AttrG.mono ⟨p5, cp5, q5, cq5, rfl, i1, i2, k1, k2, m1, m2⟩ HQ0.out.size, trivial⟩⟩
      clear hb5 i1 i2 k1 k2 m1 m2
      refine hK.out _ _ ⟨HQ1.out, hx x1 HQ1.out.2.2.2⟩ (fun hHeld => ?_)
      clear hK K2
      try simp only [Act.put, List.setIfInBounds_toArray, List.set_cons_zero, List.set_cons_succ, List.getElem_toArray, List.getElem_cons_zero, List.getElem_cons_succ]
      refine wpAnyH_take (i := 7) (v := ?_) rfl (by kernel_rfl) (by kernel_rfl) (by kernel_rfl) (fun _ _ _ h => h) (Or.inl ⟨by rfl, ?_⟩) (by assumption) ?_
      rotate_left
      · (intro w hSw; (try dsimp only at hSw); go_simp; try (with_reducible rfl))
      try simp only [Act.put, List.setIfInBounds_toArray, List.set_cons_zero, List.set_cons_succ, List.getElem_toArray, List.getElem_cons_zero, List.getElem_cons_succ]
      refine wpAnyH_take (i := 8) (v := ?_) rfl (by kernel_rfl) (by kernel_rfl) (by kernel_rfl) (fun _ _ _ h => h) (Or.inl ⟨by rfl, ?_⟩) (by assumption) ?_
      rotate_left
      · (intro w hSw; (try dsimp only at hSw); go_simp; try (with_reducible rfl))
      try simp only [Act.put, List.setIfInBounds_toArray, List.set_cons_zero, List.set_cons_succ, List.getElem_toArray, List.getElem_cons_zero, List.getElem_cons_succ]
      refine wpAnyH_take (i := 9) (v := ?_) rfl (by kernel_rfl) (by kernel_rfl) (by kernel_rfl) (fun _ _ _ h => h) (Or.inl ⟨by rfl, ?_⟩) (by assumption) ?_
      rotate_left
      · (intro w hSw; (try dsimp only at hSw); go_simp; try (with_reducible rfl))
      try simp only [Act.put, List.setIfInBounds_toArray, List.set_cons_zero, List.set_cons_succ, List.getElem_toArray, List.getElem_cons_zero, List.getElem_cons_succ]
      refine wpAnyH_ready (rs := [10]) (by kernel_rfl) (by simp) ?_
      refine AllReadyH.cons rfl (fun K2 hK => ?_) AllReadyH.nil
      go_simp
      obtain ⟨O, hO⟩ : ∃ b, Hid (x1.heap.size = b) := ⟨_, show _ = _ from rfl⟩
      obtain ⟨x2, hx2⟩ : ∃ y, Hid (x1.alloc (.cells #[.slice none 0 0, .int .i64 0, .int .i64 0, .int .i64 0, .slice none 0 0] 27) = y) := ⟨_, show _ = _ from rfl⟩
      have hb : Below x1.heap.size x1 x2 := by rw [← show x1.alloc (.cells #[.slice none 0 0, .int .i64 0, .int .i64 0, .int .i64 0, .slice none 0 0] 27) = x2 from hx2.out]; exact below_alloc (x1) _
      obtain ⟨HQ2⟩ : Nonempty (Hid (PB w x2 B ta tn #[.slice p0 A.path.length cp0, .int .i64 A.pref, .int .i64 A.med, .int .i64 A.org, .slice q0 A.tags.length cq0] #[.slice none 0 0, .int .i64 0, .int .i64 0, .int .i64 0, .slice none 0 0])) := ⟨HQ1.out.on hb⟩
      obtain ⟨HO2⟩ : Nonempty (Hid (x2.heap[O]? = some (.cells #[.slice none 0 0, .int .i64 0, .int .i64 0, .int .i64 0, .slice none 0 0] 27 (0, 0)) ∧ B + 2 < O ∧ O < x2.heap.size)) := ⟨by
        have hh : x2.heap[O]? = some (.cells #[.slice none 0 0, .int .i64 0, .int .i64 0, .int .i64 0, .slice none 0 0] 27 (0, 0)) := by rw [← show x1.alloc (.cells #[.slice none 0 0, .int .i64 0, .int .i64 0, .int .i64 0, .slice none 0 0] 27) = x2 from hx2.out, ← show x1.heap.size = O from hO.out]; exact Go.heap_alloc_new (x1) _
        exact ⟨hh, by rw [← show x1.heap.size = O from hO.out]; exact HQ1.out.size, (Array.getElem?_eq_some_iff.1 hh).1⟩⟩
      obtain ⟨HG⟩ : Nonempty (Hid (AttrG x1 (.agg #[.slice p5 AM.path.length cp5, .int .i64 AM.pref, .int .i64 AM.med, .int .i64 AM.org, .slice q5 AM.tags.length cq5]) AM (B + 3) ∧ Below x1.heap.size x1 x2 ∧ x1.heap.size = O)) := ⟨⟨HG0.out.1, hb, hO.out⟩⟩
      rw [show x1.alloc (.cells #[.slice none 0 0, .int .i64 0, .int .i64 0, .int .i64 0, .slice none 0 0] 27) = x2 from hx2.out, show x1.heap.size = O from hO.out]
      clear hx2 hO hb
      refine hK.out _ _ ⟨HQ2.out, hx x2 HQ2.out.2.2.2⟩ (fun hHeld => ?_)
      clear hK K2
      try simp only [Act.put, List.setIfInBounds_toArray, List.set_cons_zero, List.set_cons_succ, List.getElem_toArray, List.getElem_cons_zero, List.getElem_cons_succ]
      refine wpAnyH_ready (rs := [11]) (by kernel_rfl) (by simp) ?_
      refine AllReadyH.cons rfl (fun K2 hK => ?_) AllReadyH.nil
      have hh := HO2.out.1
      have e0 : x2.cell? ⟨O, 0, none⟩ = some (.slice none 0 0) := by simp [World.cell?, hh]
      have z0 : x2.frozen? ⟨O, 0, none⟩ = false := by simp [World.frozen?, hh]
      have e1 : x2.cell? ⟨O, 1, none⟩ = some (.int .i64 0) := by simp [World.cell?, hh]
      have z1 : x2.frozen? ⟨O, 1, none⟩ = false := by simp [World.frozen?, hh]
      have e2 : x2.cell? ⟨O, 2, none⟩ = some (.int .i64 0) := by simp [World.cell?, hh]
      have z2 : x2.frozen? ⟨O, 2, none⟩ = false := by simp [World.frozen?, hh]
      have e3 : x2.cell? ⟨O, 3, none⟩ = some (.int .i64 0) := by simp [World.cell?, hh]
      have z3 : x2.frozen? ⟨O, 3, none⟩ = false := by simp [World.frozen?, hh]
      have e4 : x2.cell? ⟨O, 4, none⟩ = some (.slice none 0 0) := by simp [World.cell?, hh]
      have z4 : x2.frozen? ⟨O, 4, none⟩ = false := by simp [World.frozen?, hh]
      clear hh
      go_simp
      obtain ⟨x3, hx3⟩ : ∃ y, Hid (((((x2.setCell ⟨O, 0, none⟩ (.slice p5 AM.path.length cp5)).setCell ⟨O, 1, none⟩ (.int .i64 AM.pref)).setCell ⟨O, 2, none⟩ (.int .i64 AM.med)).setCell ⟨O, 3, none⟩ (.int .i64 AM.org)).setCell ⟨O, 4, none⟩ (.slice q5 AM.tags.length cq5) = y) := ⟨_, show _ = _ from rfl⟩
      rw [show ((((x2.setCell ⟨O, 0, none⟩ (.slice p5 AM.path.length cp5)).setCell ⟨O, 1, none⟩ (.int .i64 AM.pref)).setCell ⟨O, 2, none⟩ (.int .i64 AM.med)).setCell ⟨O, 3, none⟩ (.int .i64 AM.org)).setCell ⟨O, 4, none⟩ (.slice q5 AM.tags.length cq5) = x3 from hx3.out]
      obtain ⟨HZ⟩ : Nonempty (Hid (PB w x3 B ta tn #[.slice p0 A.path.length cp0, .int .i64 A.pref, .int .i64 A.med, .int .i64 A.org, .slice q0 A.tags.length cq0] #[.slice none 0 0, .int .i64 0, .int .i64 0, .int .i64 0, .slice none 0 0] ∧ x3.heap[O]? = some (.cells #[.slice p5 AM.path.length cp5, .int .i64 AM.pref, .int .i64 AM.med, .int .i64 AM.org, .slice q5 AM.tags.length cq5] 27 (0, 0)) ∧ B + 2 < O ∧ AttrG x3 (.agg #[.slice p5 AM.path.length cp5, .int .i64 AM.pref, .int .i64 AM.med, .int .i64 AM.org, .slice q5 AM.tags.length cq5]) AM (B + 3))) := ⟨by
        rw [← show ((((x2.setCell ⟨O, 0, none⟩ (.slice p5 AM.path.length cp5)).setCell ⟨O, 1, none⟩ (.int .i64 AM.pref)).setCell ⟨O, 2, none⟩ (.int .i64 AM.med)).setCell ⟨O, 3, none⟩ (.int .i64 AM.org)).setCell ⟨O, 4, none⟩ (.slice q5 AM.tags.length cq5) = x3 from hx3.out]
        have l := HO2.out.2.1
        refine ⟨((((HQ2.out.setO l _ _).setO l _ _).setO l _ _).setO l _ _).setO l _ _, ?_, l, HG.out.1.on (setFive HG.out.2.1 (by have := HG.out.2.2; omega) _ _ _ _ _)⟩
        have h1 := heap_setCell_same _ O 4 _ _ (.slice q5 AM.tags.length cq5) (heap_setCell_same _ O 3 _ _ (.int .i64 AM.org) (heap_setCell_same _ O 2 _ _ (.int .i64 AM.med) (heap_setCell_same _ O 1 _ _ (.int .i64 AM.pref) (heap_setCell_same _ O 0 _ _ (.slice p5 AM.path.length cp5) HO2.out.1))))
        simpa using h1⟩
      clear hx3 e0 e1 e2 e3 e4 z0 z1 z2 z3 z4
      refine hK.out _ _ ⟨HZ.out.1, hx x3 HZ.out.1.2.2.2⟩ (fun hHeld => ?_)
      clear hK K2
      try simp only [Act.put, List.setIfInBounds_toArray, List.set_cons_zero, List.set_cons_succ, List.getElem_toArray, List.getElem_cons_zero, List.getElem_cons_succ]
      refine wpAnyH_take (i := 12) (v := ?_) rfl (by kernel_rfl) (by kernel_rfl) (by kernel_rfl) (fun _ _ _ h => h) (Or.inl ⟨by rfl, ?_⟩) (by assumption) ?_
      rotate_left
      · (intro w hSw; (try dsimp only at hSw); go_simp; try (with_reducible rfl))
      try simp only [Act.put, List.setIfInBounds_toArray, List.set_cons_zero, List.set_cons_succ, List.getElem_toArray, List.getElem_cons_zero, List.getElem_cons_succ]
      refine wpAnyH_done (by kernel_rfl) ?_ _
      refine NoPanic.normal ?_
      show K0 _ _
      refine hK0 _ _ (Met.intro (hJ0 _ _ ?_))
      (repeat apply Exists.intro)
      exact ⟨⟨O, p5, cp5, q5, cq5, x3, rfl, hum.out.symm, HZ, rfl⟩, rfl⟩
    · skip
      go_simp
      obtain ⟨O, hO⟩ : ∃ b, Hid (x0.drew.heap.size = b) := ⟨_, show _ = _ from rfl⟩
      obtain ⟨x1, hx1⟩ : ∃ y, Hid ((x0.alloc (.cells #[.slice none 0 0, .int .i64 0, .int .i64 0, .int .i64 0, .slice none 0 0] 27)).drew = y) := ⟨_, show _ = _ from rfl⟩
      have hb : Below x0.drew.heap.size x0.drew x1 := by rw [← show (x0.alloc (.cells #[.slice none 0 0, .int .i64 0, .int .i64 0, .int .i64 0, .slice none 0 0] 27)).drew = x1 from hx1.out]; exact below_alloc (x0.drew) _
      obtain ⟨HQ1⟩ : Nonempty (Hid (PB w x1 B ta tn #[.slice p0 A.path.length cp0, .int .i64 A.pref, .int .i64 A.med, .int .i64 A.org, .slice q0 A.tags.length cq0] #[.slice none 0 0, .int .i64 0, .int .i64 0, .int .i64 0, .slice none 0 0])) := ⟨HQ0.out.on hb⟩
      obtain ⟨HO1⟩ : Nonempty (Hid (x1.heap[O]? = some (.cells #[.slice none 0 0, .int .i64 0, .int .i64 0, .int .i64 0, .slice none 0 0] 27 (0, 0)) ∧ B + 2 < O ∧ O < x1.heap.size)) := ⟨by
        have hh : x1.heap[O]? = some (.cells #[.slice none 0 0, .int .i64 0, .int .i64 0, .int .i64 0, .slice none 0 0] 27 (0, 0)) := by rw [← show (x0.alloc (.cells #[.slice none 0 0, .int .i64 0, .int .i64 0, .int .i64 0, .slice none 0 0] 27)).drew = x1 from hx1.out, ← show x0.drew.heap.size = O from hO.out]; exact Go.heap_alloc_new (x0.drew) _
        exact ⟨hh, by rw [← show x0.drew.heap.size = O from hO.out]; exact HQ0.out.size, (Array.getElem?_eq_some_iff.1 hh).1⟩⟩
      rw [show (x0.alloc (.cells #[.slice none 0 0, .int .i64 0, .int .i64 0, .int .i64 0, .slice none 0 0] 27)).drew = x1 from hx1.out, show x0.heap.size = O from hO.out]
      clear hx1 hO hb
      refine hK.out _ _ ⟨HQ1.out, hx x1 HQ1.out.2.2.2⟩ (fun hHeld => ?_)
      clear hK K2
      try simp only [Act.put, List.setIfInBounds_toArray, List.set_cons_zero, List.set_cons_succ, List.getElem_toArray, List.getElem_cons_zero, List.getElem_cons_succ]
      refine wpAnyH_ready (rs := [6]) (by kernel_rfl) (by simp) ?_
      refine AllReadyH.cons rfl (fun K2 hK => ?_) AllReadyH.nil
      go_simp
      refine (HMD.out x1 (by first | exact HQ1.out.2.2.2 | (rw [show w.heap.size = B from hB.out]; exact HQ1.out.2.2.2))).mono ?_
      rintro e x2 ⟨⟨v5, rfl, hg5⟩, hb5⟩
      obtain ⟨p5, cp5, q5, cq5, rfl, i1, i2, k1, k2, m1, m2⟩ := hg5
      obtain ⟨HQ2⟩ : Nonempty (Hid (PB w x2 B ta tn #[.slice p0 A.path.length cp0, .int .i64 A.pref, .int .i64 A.med, .int .i64 A.org, .slice q0 A.tags.length cq0] #[.slice none 0 0, .int .i64 0, .int .i64 0, .int .i64 0, .slice none 0 0])) := ⟨HQ1.out.on hb5⟩
      obtain ⟨HO2⟩ : Nonempty (Hid (x2.heap[O]? = some (.cells #[.slice none 0 0, .int .i64 0, .int .i64 0, .int .i64 0, .slice none 0 0] 27 (0, 0)) ∧ B + 2 < O ∧ O < x2.heap.size)) := ⟨⟨by rw [hb5.block _ HO1.out.2.2]; exact HO1.out.1, HO1.out.2.1, Nat.lt_of_lt_of_le HO1.out.2.2 hb5.size⟩⟩
      obtain ⟨HG⟩ : Nonempty (Hid (AttrG x2 (.agg #[.slice p5 AM.path.length cp5, .int .i64 AM.pref, .int .i64 AM.med, .int .i64 AM.org, .slice q5 AM.tags.length cq5]) AM x1.heap.size ∧ O < x1.heap.size)) := ⟨⟨⟨p5, cp5, q5, cq5, rfl, i1, i2, k1, k2, m1, m2⟩, HO1.out.2.2⟩⟩
      clear hb5 i1 i2 k1 k2 m1 m2
      refine hK.out _ _ ⟨HQ2.out, hx x2 HQ2.out.2.2.2⟩ (fun hHeld => ?_)
      clear hK K2
      try simp only [Act.put, List.setIfInBounds_toArray, List.set_cons_zero, List.set_cons_succ, List.getElem_toArray, List.getElem_cons_zero, List.getElem_cons_succ]
      refine wpAnyH_take (i := 7) (v := ?_) rfl (by kernel_rfl) (by kernel_rfl) (by kernel_rfl) (fun _ _ _ h => h) (Or.inl ⟨by rfl, ?_⟩) (by assumption) ?_
      rotate_left
      · (intro w hSw; (try dsimp only at hSw); go_simp; try (with_reducible rfl))
      try simp only [Act.put, List.setIfInBounds_toArray, List.set_cons_zero, List.set_cons_succ, List.getElem_toArray, List.getElem_cons_zero, List.getElem_cons_succ]
      refine wpAnyH_take (i := 8) (v := ?_) rfl (by kernel_rfl) (by kernel_rfl) (by kernel_rfl) (fun _ _ _ h => h) (Or.inl ⟨by rfl, ?_⟩) (by assumption) ?_
      rotate_left
      · (intro w hSw; (try dsimp only at hSw); go_simp; try (with_reducible rfl))
      try simp only [Act.put, List.setIfInBounds_toArray, List.set_cons_zero, List.set_cons_succ, List.getElem_toArray, List.getElem_cons_zero, List.getElem_cons_succ]
      refine wpAnyH_take (i := 9) (v := ?_) rfl (by kernel_rfl) (by kernel_rfl) (by kernel_rfl) (fun _ _ _ h => h) (Or.inl ⟨by rfl, ?_⟩) (by assumption) ?_
      rotate_left
      · (intro w hSw; (try dsimp only at hSw); go_simp; try (with_reducible rfl))
      try simp only [Act.put, List.setIfInBounds_toArray, List.set_cons_zero, List.set_cons_succ, List.getElem_toArray, List.getElem_cons_zero, List.getElem_cons_succ]
      refine wpAnyH_ready (rs := [11]) (by kernel_rfl) (by simp) ?_
      refine AllReadyH.cons rfl (fun K2 hK => ?_) AllReadyH.nil
      have hh := HO2.out.1
      have e0 : x2.cell? ⟨O, 0, none⟩ = some (.slice none 0 0) := by simp [World.cell?, hh]
      have z0 : x2.frozen? ⟨O, 0, none⟩ = false := by simp [World.frozen?, hh]
      have e1 : x2.cell? ⟨O, 1, none⟩ = some (.int .i64 0) := by simp [World.cell?, hh]
      have z1 : x2.frozen? ⟨O, 1, none⟩ = false := by simp [World.frozen?, hh]
      have e2 : x2.cell? ⟨O, 2, none⟩ = some (.int .i64 0) := by simp [World.cell?, hh]
      have z2 : x2.frozen? ⟨O, 2, none⟩ = false := by simp [World.frozen?, hh]
      have e3 : x2.cell? ⟨O, 3, none⟩ = some (.int .i64 0) := by simp [World.cell?, hh]
      have z3 : x2.frozen? ⟨O, 3, none⟩ = false := by simp [World.frozen?, hh]
      have e4 : x2.cell? ⟨O, 4, none⟩ = some (.slice none 0 0) := by simp [World.cell?, hh]
      have z4 : x2.frozen? ⟨O, 4, none⟩ = false := by simp [World.frozen?, hh]
      clear hh
      go_simp
      obtain ⟨x3, hx3⟩ : ∃ y, Hid (((((x2.setCell ⟨O, 0, none⟩ (.slice p5 AM.path.length cp5)).setCell ⟨O, 1, none⟩ (.int .i64 AM.pref)).setCell ⟨O, 2, none⟩ (.int .i64 AM.med)).setCell ⟨O, 3, none⟩ (.int .i64 AM.org)).setCell ⟨O, 4, none⟩ (.slice q5 AM.tags.length cq5) = y) := ⟨_, show _ = _ from rfl⟩
      rw [show ((((x2.setCell ⟨O, 0, none⟩ (.slice p5 AM.path.length cp5)).setCell ⟨O, 1, none⟩ (.int .i64 AM.pref)).setCell ⟨O, 2, none⟩ (.int .i64 AM.med)).setCell ⟨O, 3, none⟩ (.int .i64 AM.org)).setCell ⟨O, 4, none⟩ (.slice q5 AM.tags.length cq5) = x3 from hx3.out]
      obtain ⟨HZ⟩ : Nonempty (Hid (PB w x3 B ta tn #[.slice p0 A.path.length cp0, .int .i64 A.pref, .int .i64 A.med, .int .i64 A.org, .slice q0 A.tags.length cq0] #[.slice none 0 0, .int .i64 0, .int .i64 0, .int .i64 0, .slice none 0 0] ∧ x3.heap[O]? = some (.cells #[.slice p5 AM.path.length cp5, .int .i64 AM.pref, .int .i64 AM.med, .int .i64 AM.org, .slice q5 AM.tags.length cq5] 27 (0, 0)) ∧ B + 2 < O ∧ AttrG x3 (.agg #[.slice p5 AM.path.length cp5, .int .i64 AM.pref, .int .i64 AM.med, .int .i64 AM.org, .slice q5 AM.tags.length cq5]) AM (B + 3))) := ⟨by
        rw [← show ((((x2.setCell ⟨O, 0, none⟩ (.slice p5 AM.path.length cp5)).setCell ⟨O, 1, none⟩ (.int .i64 AM.pref)).setCell ⟨O, 2, none⟩ (.int .i64 AM.med)).setCell ⟨O, 3, none⟩ (.int .i64 AM.org)).setCell ⟨O, 4, none⟩ (.slice q5 AM.tags.length cq5) = x3 from hx3.out]
        have l := HO2.out.2.1
        refine ⟨((((HQ2.out.setO l _ _).setO l _ _).setO l _ _).setO l _ _).setO l _ _, ?_, l, HG.out.1.set5 (B := O) HG.out.2 _ _ _ _ _ |>.mono (by have := HO2.out.2.1; have := HG.out.2; omega)⟩
        have h1 := heap_setCell_same _ O 4 _ _ (.slice q5 AM.tags.length cq5) (heap_setCell_same _ O 3 _ _ (.int .i64 AM.org) (heap_setCell_same _ O 2 _ _ (.int .i64 AM.med) (heap_setCell_same _ O 1 _ _ (.int .i64 AM.pref) (heap_setCell_same _ O 0 _ _ (.slice p5 AM.path.length cp5) HO2.out.1))))
        simpa using h1⟩
      clear hx3 e0 e1 e2 e3 e4 z0 z1 z2 z3 z4
      refine hK.out _ _ ⟨HZ.out.1, hx x3 HZ.out.1.2.2.2⟩ (fun hHeld => ?_)
      clear hK K2
      try simp only [Act.put, List.setIfInBounds_toArray, List.set_cons_zero, List.set_cons_succ, List.getElem_toArray, List.getElem_cons_zero, List.getElem_cons_succ]
      refine wpAnyH_take (i := 12) (v := ?_) rfl (by kernel_rfl) (by kernel_rfl) (by kernel_rfl) (fun _ _ _ h => h) (Or.inl ⟨by rfl, ?_⟩) (by assumption) ?_
      rotate_left
      · (intro w hSw; (try dsimp only at hSw); go_simp; try (with_reducible rfl))
      try simp only [Act.put, List.setIfInBounds_toArray, List.set_cons_zero, List.set_cons_succ, List.getElem_toArray, List.getElem_cons_zero, List.getElem_cons_succ]
      refine wpAnyH_done (by kernel_rfl) ?_ _
      refine NoPanic.normal ?_
      show K0 _ _
      refine hK0 _ _ (Met.intro (hJ0 _ _ ?_))
      (repeat apply Exists.intro)
      exact ⟨⟨O, p5, cp5, q5, cq5, x3, rfl, hum.out.symm, HZ, rfl⟩, rfl⟩
  case rest =>
    obtain ⟨O, p5, cp5, q5, cq5, W, rfl, rfl, HZ, hW⟩ := hcut
    subst hW
    clear HMD hum hx
    have hh := HZ.out.2.1
    have g0 : W.cell? ⟨O, 0, none⟩ = some (.slice p5 AM.path.length cp5) := by simp [World.cell?, hh]
    have g1 : W.cell? ⟨O, 1, none⟩ = some (.int .i64 AM.pref) := by simp [World.cell?, hh]
    have g2 : W.cell? ⟨O, 2, none⟩ = some (.int .i64 AM.med) := by simp [World.cell?, hh]
    have g3 : W.cell? ⟨O, 3, none⟩ = some (.int .i64 AM.org) := by simp [World.cell?, hh]
    have g4 : W.cell? ⟨O, 4, none⟩ = some (.slice q5 AM.tags.length cq5) := by simp [World.cell?, hh]
    obtain ⟨r0, r1, r2, r3, r4⟩ := HZ.out.1.res
    have y0 := HZ.out.1.soft 0
    have y1 := HZ.out.1.soft 1
    have y2 := HZ.out.1.soft 2
    have y3 := HZ.out.1.soft 3
    have y4 := HZ.out.1.soft 4
    have hne : ¬ O = B + 2 := by have := HZ.out.2.2.1; omega
    clear hh g0 g1 g2 g3 g4
    cases cm with
    | zero =>
      simp only [ev]
      go_upto_region 10 with fail
      refine wp_region_noPanic ?_
      refine wp_region_held_drew (S := (fun w' => w'.heap[O]? = some (.cells #[.slice p5 AM.path.length cp5, .int .i64 AM.pref, .int .i64 AM.med, .int .i64 AM.org, .slice q5 AM.tags.length cq5] 27 (0, 0)))) (by kernel_rfl) ?_ (fun hHeld => ?_)
      · exact HZ.out.2.1
      refine wpAnyH_take (i := 0) (v := ?_) rfl (by kernel_rfl) (by kernel_rfl) (by kernel_rfl) (fun _ _ _ h => h) (Or.inl ⟨by rfl, ?_⟩) (by assumption) ?_
      rotate_left
      · intro w' hSw
        have e0 : w'.cell? ⟨O, 0, none⟩ = some (.slice p5 AM.path.length cp5) := by simp [World.cell?, hSw]
        have e1 : w'.cell? ⟨O, 1, none⟩ = some (.int .i64 AM.pref) := by simp [World.cell?, hSw]
        have e2 : w'.cell? ⟨O, 2, none⟩ = some (.int .i64 AM.med) := by simp [World.cell?, hSw]
        have e3 : w'.cell? ⟨O, 3, none⟩ = some (.int .i64 AM.org) := by simp [World.cell?, hSw]
        have e4 : w'.cell? ⟨O, 4, none⟩ = some (.slice q5 AM.tags.length cq5) := by simp [World.cell?, hSw]
        go_simp
        try (with_reducible rfl)
      try simp only [Act.put, List.setIfInBounds_toArray, List.set_cons_zero, List.set_cons_succ, List.getElem_toArray, List.getElem_cons_zero, List.getElem_cons_succ]
      refine wpAnyH_take (i := 1) (v := ?_) rfl (by kernel_rfl) (by kernel_rfl) (by kernel_rfl) (fun _ _ _ h => h) (Or.inl ⟨by rfl, ?_⟩) (by assumption) ?_
      rotate_left
      · (intro w hSw; (try dsimp only at hSw); go_simp; try (with_reducible rfl))
      try simp only [Act.put, List.setIfInBounds_toArray, List.set_cons_zero, List.set_cons_succ, List.getElem_toArray, List.getElem_cons_zero, List.getElem_cons_succ]
      refine wpAnyH_take (i := 2) (v := ?_) rfl (by kernel_rfl) (by kernel_rfl) (by kernel_rfl) (fun _ _ _ h => h) (Or.inl ⟨by rfl, ?_⟩) (by assumption) ?_
      rotate_left
      · (intro w hSw; (try dsimp only at hSw); go_simp; try (with_reducible rfl))
      try simp only [Act.put, List.setIfInBounds_toArray, List.set_cons_zero, List.set_cons_succ, List.getElem_toArray, List.getElem_cons_zero, List.getElem_cons_succ]
      refine wpAnyH_take (i := 3) (v := ?_) rfl (by kernel_rfl) (by kernel_rfl) (by kernel_rfl) (fun _ _ _ h => h) (Or.inl ⟨by rfl, ?_⟩) (by assumption) ?_
      rotate_left
      · (intro w hSw; (try dsimp only at hSw); go_simp; try (with_reducible rfl))
      try simp only [Act.put, List.setIfInBounds_toArray, List.set_cons_zero, List.set_cons_succ, List.getElem_toArray, List.getElem_cons_zero, List.getElem_cons_succ]
      refine wpAnyH_ready (rs := [4]) (by kernel_rfl) (by simp) ?_
      refine AllReadyH.cons rfl (fun K hK => ?_) AllReadyH.nil
      go_simp
      obtain ⟨x9, hx9⟩ : ∃ y, Hid ((((((W.setCell ⟨B + 1 + 1, 0, none⟩ (.slice p5 AM.path.length cp5)).setCell ⟨B + 1 + 1, 1, none⟩ (.int .i64 AM.pref)).setCell ⟨B + 1 + 1, 2, none⟩ (.int .i64 AM.med)).setCell ⟨B + 1 + 1, 3, none⟩ (.int .i64 AM.org)).setCell ⟨B + 1 + 1, 4, none⟩ (.slice q5 AM.tags.length cq5)).drew = y) := ⟨_, show _ = _ from rfl⟩
      obtain ⟨H9⟩ : Nonempty (Hid (x9.heap[B + 2]? = some (.cells #[.slice p5 AM.path.length cp5, .int .i64 AM.pref, .int .i64 AM.med, .int .i64 AM.org, .slice q5 AM.tags.length cq5] 27 (0, 0)) ∧ Below B w x9 ∧ AttrG x9 (.agg #[.slice p5 AM.path.length cp5, .int .i64 AM.pref, .int .i64 AM.med, .int .i64 AM.org, .slice q5 AM.tags.length cq5]) AM (B + 3) ∧ x9.heap[O]? = some (.cells #[.slice p5 AM.path.length cp5, .int .i64 AM.pref, .int .i64 AM.med, .int .i64 AM.org, .slice q5 AM.tags.length cq5] 27 (0, 0)))) := ⟨by
        rw [← show (((((W.setCell ⟨B + 1 + 1, 0, none⟩ (.slice p5 AM.path.length cp5)).setCell ⟨B + 1 + 1, 1, none⟩ (.int .i64 AM.pref)).setCell ⟨B + 1 + 1, 2, none⟩ (.int .i64 AM.med)).setCell ⟨B + 1 + 1, 3, none⟩ (.int .i64 AM.org)).setCell ⟨B + 1 + 1, 4, none⟩ (.slice q5 AM.tags.length cq5)).drew = x9 from hx9.out]
        have hb9 := (setFive (R := B + 1 + 1) (Below.refl (B + 1 + 1) W) (Nat.le_refl _) (.slice p5 AM.path.length cp5) (.int .i64 AM.pref) (.int .i64 AM.med) (.int .i64 AM.org) (.slice q5 AM.tags.length cq5)).drew
        refine ⟨set5_at (R := B + 1 + 1) HZ.out.1.2.2.1 _ _ _ _ _, HZ.out.1.2.2.2.trans (hb9.mono (by omega)), ?_, ?_⟩
        · exact AttrG.drew5 HZ.out.2.2.2 (by omega) _ _ _ _ _
        · exact five_other W (B + 1 + 1) O (by omega) _ _ _ _ _ _ HZ.out.2.1⟩
      rw [show (((((W.setCell ⟨B + 1 + 1, 0, none⟩ (.slice p5 AM.path.length cp5)).setCell ⟨B + 1 + 1, 1, none⟩ (.int .i64 AM.pref)).setCell ⟨B + 1 + 1, 2, none⟩ (.int .i64 AM.med)).setCell ⟨B + 1 + 1, 3, none⟩ (.int .i64 AM.org)).setCell ⟨B + 1 + 1, 4, none⟩ (.slice q5 AM.tags.length cq5)).drew = x9 from hx9.out]
      clear hx9
      refine hK.out _ _ H9.out.2.2.2 (fun hHeld => ?_)
      clear hK K
      try simp only [Act.put, List.setIfInBounds_toArray, List.set_cons_zero, List.set_cons_succ, List.getElem_toArray, List.getElem_cons_zero, List.getElem_cons_succ]
      refine wpAnyH_take (i := 5) (v := ?_) rfl (by kernel_rfl) (by kernel_rfl) (by kernel_rfl) (fun _ _ _ h => h) (Or.inl ⟨by rfl, ?_⟩) (by assumption) ?_
      rotate_left
      · (intro w hSw; (try dsimp only at hSw); go_simp; try (with_reducible rfl))
      try simp only [Act.put, List.setIfInBounds_toArray, List.set_cons_zero, List.set_cons_succ, List.getElem_toArray, List.getElem_cons_zero, List.getElem_cons_succ]
      refine wpAnyH_take (i := 6) (v := ?_) rfl (by kernel_rfl) (by kernel_rfl) (by kernel_rfl) (fun _ _ _ h => h) (Or.inl ⟨by rfl, ?_⟩) (by assumption) ?_
      rotate_left
      · (intro w hSw; (try dsimp only at hSw); go_simp; try (with_reducible rfl))
      try simp only [Act.put, List.setIfInBounds_toArray, List.set_cons_zero, List.set_cons_succ, List.getElem_toArray, List.getElem_cons_zero, List.getElem_cons_succ]
      refine wpAnyH_done (by kernel_rfl) ?_ _
      refine NoPanic.normal ?_
      clear hHeld r0 r1 r2 r3 r4 y0 y1 y2 y3 y4
      have hh9 := H9.out.1
      have r0 : x9.cell? ⟨B + 1 + 1, 0, none⟩ = some (.slice p5 AM.path.length cp5) := by simp [World.cell?, hh9]
      have r1 : x9.cell? ⟨B + 1 + 1, 1, none⟩ = some (.int .i64 AM.pref) := by simp [World.cell?, hh9]
      have r2 : x9.cell? ⟨B + 1 + 1, 2, none⟩ = some (.int .i64 AM.med) := by simp [World.cell?, hh9]
      have r3 : x9.cell? ⟨B + 1 + 1, 3, none⟩ = some (.int .i64 AM.org) := by simp [World.cell?, hh9]
      have r4 : x9.cell? ⟨B + 1 + 1, 4, none⟩ = some (.slice q5 AM.tags.length cq5) := by simp [World.cell?, hh9]
      clear hh9
      go_wp2_with fail
      refine bodyPost_ret (v := .tuple #[.agg #[.slice p5 AM.path.length cp5, .int .i64 AM.pref, .int .i64 AM.med, .int .i64 AM.org, .slice q5 AM.tags.length cq5], .bool true, .nilIface]) (by simp [results, Tryd.results6, go_sem, r0, r1, r2, r3, r4]) rfl ⟨⟨_, _, rfl, H9.out.2.2.1.mono (by have := hB.out; omega), .inl ⟨rfl, rfl⟩⟩, by rw [show w.heap.size = B from hB.out]; exact H9.out.2.1⟩
    | succ c =>
      obtain ⟨u, hu⟩ : ∃ u, Hid (E c = u) := ⟨_, show _ = _ from rfl⟩
      simp only [ev]
      rw [show E c = u from hu.out]
      go_upto_region 10 with fail
      refine wp_region_noPanic ?_
      refine wp_region_held_drew (S := (fun w' => w'.heap[O]? = some (.cells #[.slice p5 AM.path.length cp5, .int .i64 AM.pref, .int .i64 AM.med, .int .i64 AM.org, .slice q5 AM.tags.length cq5] 27 (0, 0)))) (by kernel_rfl) ?_ (fun hHeld => ?_)
      · exact HZ.out.2.1
      refine wpAnyH_take (i := 0) (v := ?_) rfl (by kernel_rfl) (by kernel_rfl) (by kernel_rfl) (fun _ _ _ h => h) (Or.inl ⟨by rfl, ?_⟩) (by assumption) ?_
      rotate_left
      · intro w' hSw
        have e0 : w'.cell? ⟨O, 0, none⟩ = some (.slice p5 AM.path.length cp5) := by simp [World.cell?, hSw]
        have e1 : w'.cell? ⟨O, 1, none⟩ = some (.int .i64 AM.pref) := by simp [World.cell?, hSw]
        have e2 : w'.cell? ⟨O, 2, none⟩ = some (.int .i64 AM.med) := by simp [World.cell?, hSw]
        have e3 : w'.cell? ⟨O, 3, none⟩ = some (.int .i64 AM.org) := by simp [World.cell?, hSw]
        have e4 : w'.cell? ⟨O, 4, none⟩ = some (.slice q5 AM.tags.length cq5) := by simp [World.cell?, hSw]
        go_simp
        try (with_reducible rfl)
      try simp only [Act.put, List.setIfInBounds_toArray, List.set_cons_zero, List.set_cons_succ, List.getElem_toArray, List.getElem_cons_zero, List.getElem_cons_succ]
      refine wpAnyH_take (i := 1) (v := ?_) rfl (by kernel_rfl) (by kernel_rfl) (by kernel_rfl) (fun _ _ _ h => h) (Or.inl ⟨by rfl, ?_⟩) (by assumption) ?_
      rotate_left
      · (intro w hSw; (try dsimp only at hSw); go_simp; try (with_reducible rfl))
      try simp only [Act.put, List.setIfInBounds_toArray, List.set_cons_zero, List.set_cons_succ, List.getElem_toArray, List.getElem_cons_zero, List.getElem_cons_succ]
      refine wpAnyH_take (i := 2) (v := ?_) rfl (by kernel_rfl) (by kernel_rfl) (by kernel_rfl) (fun _ _ _ h => h) (Or.inl ⟨by rfl, ?_⟩) (by assumption) ?_
      rotate_left
      · (intro w hSw; (try dsimp only at hSw); go_simp; try (with_reducible rfl))
      try simp only [Act.put, List.setIfInBounds_toArray, List.set_cons_zero, List.set_cons_succ, List.getElem_toArray, List.getElem_cons_zero, List.getElem_cons_succ]
      refine wpAnyH_take (i := 3) (v := ?_) rfl (by kernel_rfl) (by kernel_rfl) (by kernel_rfl) (fun _ _ _ h => h) (Or.inl ⟨by rfl, ?_⟩) (by assumption) ?_
      rotate_left
      · (intro w hSw; (try dsimp only at hSw); go_simp; try (with_reducible rfl))
      try simp only [Act.put, List.setIfInBounds_toArray, List.set_cons_zero, List.set_cons_succ, List.getElem_toArray, List.getElem_cons_zero, List.getElem_cons_succ]
      refine wpAnyH_ready (rs := [4]) (by kernel_rfl) (by simp) ?_
      refine AllReadyH.cons rfl (fun K hK => ?_) AllReadyH.nil
      go_simp
      obtain ⟨x9, hx9⟩ : ∃ y, Hid ((((((W.setCell ⟨B + 1 + 1, 0, none⟩ (.slice p5 AM.path.length cp5)).setCell ⟨B + 1 + 1, 1, none⟩ (.int .i64 AM.pref)).setCell ⟨B + 1 + 1, 2, none⟩ (.int .i64 AM.med)).setCell ⟨B + 1 + 1, 3, none⟩ (.int .i64 AM.org)).setCell ⟨B + 1 + 1, 4, none⟩ (.slice q5 AM.tags.length cq5)).drew = y) := ⟨_, show _ = _ from rfl⟩
      obtain ⟨H9⟩ : Nonempty (Hid (x9.heap[B + 2]? = some (.cells #[.slice p5 AM.path.length cp5, .int .i64 AM.pref, .int .i64 AM.med, .int .i64 AM.org, .slice q5 AM.tags.length cq5] 27 (0, 0)) ∧ Below B w x9 ∧ AttrG x9 (.agg #[.slice p5 AM.path.length cp5, .int .i64 AM.pref, .int .i64 AM.med, .int .i64 AM.org, .slice q5 AM.tags.length cq5]) AM (B + 3) ∧ x9.heap[O]? = some (.cells #[.slice p5 AM.path.length cp5, .int .i64 AM.pref, .int .i64 AM.med, .int .i64 AM.org, .slice q5 AM.tags.length cq5] 27 (0, 0)))) := ⟨by
        rw [← show (((((W.setCell ⟨B + 1 + 1, 0, none⟩ (.slice p5 AM.path.length cp5)).setCell ⟨B + 1 + 1, 1, none⟩ (.int .i64 AM.pref)).setCell ⟨B + 1 + 1, 2, none⟩ (.int .i64 AM.med)).setCell ⟨B + 1 + 1, 3, none⟩ (.int .i64 AM.org)).setCell ⟨B + 1 + 1, 4, none⟩ (.slice q5 AM.tags.length cq5)).drew = x9 from hx9.out]
        have hb9 := (setFive (R := B + 1 + 1) (Below.refl (B + 1 + 1) W) (Nat.le_refl _) (.slice p5 AM.path.length cp5) (.int .i64 AM.pref) (.int .i64 AM.med) (.int .i64 AM.org) (.slice q5 AM.tags.length cq5)).drew
        refine ⟨set5_at (R := B + 1 + 1) HZ.out.1.2.2.1 _ _ _ _ _, HZ.out.1.2.2.2.trans (hb9.mono (by omega)), ?_, ?_⟩
        · exact AttrG.drew5 HZ.out.2.2.2 (by omega) _ _ _ _ _
        · exact five_other W (B + 1 + 1) O (by omega) _ _ _ _ _ _ HZ.out.2.1⟩
      rw [show (((((W.setCell ⟨B + 1 + 1, 0, none⟩ (.slice p5 AM.path.length cp5)).setCell ⟨B + 1 + 1, 1, none⟩ (.int .i64 AM.pref)).setCell ⟨B + 1 + 1, 2, none⟩ (.int .i64 AM.med)).setCell ⟨B + 1 + 1, 3, none⟩ (.int .i64 AM.org)).setCell ⟨B + 1 + 1, 4, none⟩ (.slice q5 AM.tags.length cq5)).drew = x9 from hx9.out]
      clear hx9
      refine hK.out _ _ H9.out.2.2.2 (fun hHeld => ?_)
      clear hK K
      try simp only [Act.put, List.setIfInBounds_toArray, List.set_cons_zero, List.set_cons_succ, List.getElem_toArray, List.getElem_cons_zero, List.getElem_cons_succ]
      refine wpAnyH_take (i := 5) (v := ?_) rfl (by kernel_rfl) (by kernel_rfl) (by kernel_rfl) (fun _ _ _ h => h) (Or.inl ⟨by rfl, ?_⟩) (by assumption) ?_
      rotate_left
      · (intro w hSw; (try dsimp only at hSw); go_simp; try (with_reducible rfl))
      try simp only [Act.put, List.setIfInBounds_toArray, List.set_cons_zero, List.set_cons_succ, List.getElem_toArray, List.getElem_cons_zero, List.getElem_cons_succ]
      refine wpAnyH_take (i := 6) (v := ?_) rfl (by kernel_rfl) (by kernel_rfl) (by kernel_rfl) (fun _ _ _ h => h) (Or.inl ⟨by rfl, ?_⟩) (by assumption) ?_
      rotate_left
      · (intro w hSw; (try dsimp only at hSw); go_simp; try (with_reducible rfl))
      try simp only [Act.put, List.setIfInBounds_toArray, List.set_cons_zero, List.set_cons_succ, List.getElem_toArray, List.getElem_cons_zero, List.getElem_cons_succ]
      refine wpAnyH_done (by kernel_rfl) ?_ _
      refine NoPanic.normal ?_
      clear hHeld r0 r1 r2 r3 r4 y0 y1 y2 y3 y4
      have hh9 := H9.out.1
      have r0 : x9.cell? ⟨B + 1 + 1, 0, none⟩ = some (.slice p5 AM.path.length cp5) := by simp [World.cell?, hh9]
      have r1 : x9.cell? ⟨B + 1 + 1, 1, none⟩ = some (.int .i64 AM.pref) := by simp [World.cell?, hh9]
      have r2 : x9.cell? ⟨B + 1 + 1, 2, none⟩ = some (.int .i64 AM.med) := by simp [World.cell?, hh9]
      have r3 : x9.cell? ⟨B + 1 + 1, 3, none⟩ = some (.int .i64 AM.org) := by simp [World.cell?, hh9]
      have r4 : x9.cell? ⟨B + 1 + 1, 4, none⟩ = some (.slice q5 AM.tags.length cq5) := by simp [World.cell?, hh9]
      clear hh9
      go_wp2_with fail
      refine bodyPost_ret (v := .tuple #[.agg #[.slice p5 AM.path.length cp5, .int .i64 AM.pref, .int .i64 AM.med, .int .i64 AM.org, .slice q5 AM.tags.length cq5], .bool false, .iface 117 (.pointer (some u))]) (by simp [results, Tryd.results6, go_sem, r0, r1, r2, r3, r4]) rfl ⟨⟨_, _, rfl, H9.out.2.2.1.mono (by have := hB.out; omega), .inl ⟨rfl, by show _ = ev E (c + 1); simp only [ev]; rw [hu.out]⟩⟩, by rw [show w.heap.size = B from hB.out]; exact H9.out.2.1⟩
end Go.Proofs.YtnifhaopjhgmnaaDoor
