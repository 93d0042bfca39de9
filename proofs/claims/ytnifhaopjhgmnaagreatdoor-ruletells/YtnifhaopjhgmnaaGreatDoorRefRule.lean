/-
  The document's RulesFault and DoesFit: what they return.
-/
import Derived.Test.YtnifhaopjhgmnaaGreatDoorRuleApply
import Derived.Test.YtnifhaopjhgmnaaGreatDoorGK
import Derived.Test.YtnifhaopjhgmnaaGreatDoorGB
namespace Go.Proofs.YtnifhaopjhgmnaaGreatDoor
open Go.RowKit

theorem rule_bad (r : Rl) (h0 : chkC r.wa r.wn = 0) (h : r.lo < 0 ∨ r.hi < r.lo ∨ 32 < r.hi ∨ r.tag < 0 ∨ 9999 < r.tag ∨ r.add < 0 ∨ 9999 < r.add ∨ r.sys < 0 ∨ 1000 < r.sys ∨ r.lead < 0 ∨ 12 < r.lead ∨ r.pref < -1 ∨ 1000 < r.pref ∨ r.med < -1 ∨ 1000 < r.med) : chkR r = 2 := by
  unfold chkR
  rw [h0, if_neg (by omega), if_neg]
  simp only [asksB, changesB, inB3, Bool.and_eq_true, decide_eq_true_eq]
  omega
theorem rule_fine (r : Rl) (h0 : chkC r.wa r.wn = 0) (h : ¬ (r.lo < 0 ∨ r.hi < r.lo ∨ 32 < r.hi ∨ r.tag < 0 ∨ 9999 < r.tag ∨ r.add < 0 ∨ 9999 < r.add ∨ r.sys < 0 ∨ 1000 < r.sys ∨ r.lead < 0 ∨ 12 < r.lead ∨ r.pref < -1 ∨ 1000 < r.pref ∨ r.med < -1 ∨ 1000 < r.med)) : chkR r = 0 := by
  unfold chkR
  rw [h0, if_neg (by omega), if_pos]
  simp only [asksB, changesB, inB3, Bool.and_eq_true, decide_eq_true_eq]
  omega
theorem rule_else (r : Rl) (h0 : 0 < chkC r.wa r.wn) : chkR r = chkC r.wa r.wn := by
  unfold chkR
  rw [if_pos h0]
/-- the answer's box, and all below it as it was. -/
def RF (w wr : World) (B : Nat) : Prop := wr.heap[B]? = some (.cells #[.int .i64 0, .int .i64 0] 36 (0, 0)) ∧ Below B w wr
theorem RF.on {w wr w' : World} {B : Nat} (h : RF w wr B) (hb : Below wr.heap.size wr w') : RF w w' B := by
  obtain ⟨a, b⟩ := h
  have l := (Array.getElem?_eq_some_iff.1 a).1
  exact ⟨by rw [hb.block _ l]; exact a, b.trans (hb.mono (by omega))⟩
theorem RF.lt {w wr : World} {B : Nat} (h : RF w wr B) : B < wr.heap.size := (Array.getElem?_eq_some_iff.1 h.1).1
theorem RF.res {w wr : World} {B : Nat} (h : RF w wr B) : wr.cell? ⟨B, 0, none⟩ = some (.int .i64 0) ∧ wr.cell? ⟨B, 1, none⟩ = some (.int .i64 0) ∧ wr.frozen? ⟨B, 0, none⟩ = false ∧ wr.frozen? ⟨B, 1, none⟩ = false := by
  refine ⟨?_, ?_, ?_, ?_⟩ <;> simp [World.cell?, World.frozen?, h.1]
theorem rf_start (w : World) : RF w (w.alloc (.cells #[.int .i64 0, .int .i64 0] 36)) w.heap.size := ⟨Go.heap_alloc_new w _, below_alloc w _⟩
theorem rf_end {B : Nat} {w w1 : World} (h : Below B w w1) (u v : Value) : Below B w ((w1.setCell ⟨B, 0, none⟩ u).setCell ⟨B, 1, none⟩ v) := (h.setCell (Nat.le_refl _) _).setCell (Nat.le_refl _) _

set_option linter.unusedSimpArgs false in
set_option linter.unusedVariables false in
set_option maxRecDepth 100000 in
set_option maxHeartbeats 8000000 in
theorem rRulesFault_any (p : Option Addr) (L : List Rl) (cp : Nat) (w : World) (h : Rules w p L) (hl : L.length ≤ 1000000) (f0 f1 : Int) (hf : Hid (((rulesC L).1 : Int) = f0 ∧ (rulesC L).2 = f1)) :
    Calls Tryz.prog 9 #[.slice p L.length cp] w fun r w' => r = .returned (.agg #[.int .i64 f0, .int .i64 f1]) ∧ Below w.heap.size w w' := by
  by_cases hn : 10 < L.length
  · have hn' : decide (10 < (L.length : Int)) = true := decide_eq_true (by omega)
    have e0 : rulesC L = (7, -1) := by unfold rulesC; rw [if_pos hn]
    have hff : (7 : Int) = f0 ∧ (-1 : Int) = f1 := by have := hf.out; rw [e0] at this; exact this
    obtain ⟨rfl, rfl⟩ := hff
    obtain ⟨HS⟩ : Nonempty (Hid (RF w _ _)) := ⟨rf_start w⟩
    clear h e0 hn hf
    go_enter Tryz.func9, Tryz.ntmps9
    go_wp2_with fail
    refine (aBare_any _ _).mono ?_
    rintro e w1 ⟨rfl, hb1⟩
    obtain ⟨HA⟩ : Nonempty (Hid (RF w w1 w.heap.size)) := ⟨HS.out.on hb1⟩
    obtain ⟨s0, s1, z0, z1⟩ := HA.out.res
    clear hb1
    go_wp2_with fail
    exact bodyPost_ret (v := .agg #[.int .i64 7, .int .i64 (-1)]) (by simp [results, Tryz.results9, go_sem, s0, s1]) rfl ⟨rfl, rf_end HA.out.2 _ _⟩
  · have hn' : decide (10 < (L.length : Int)) = false := decide_eq_false (by omega)
    have e0 : rulesC L = firstQ (qR L) L.length := by unfold rulesC; rw [if_neg hn]
    obtain ⟨HF⟩ : Nonempty (Hid (((firstQ (qR L) L.length).1 : Int) = f0 ∧ (firstQ (qR L) L.length).2 = f1)) := ⟨by have := hf.out; rw [e0] at this; exact this⟩
    obtain ⟨HR⟩ : Nonempty (Hid (Rules w p L)) := ⟨h⟩
    obtain ⟨HS⟩ : Nonempty (Hid (RF w _ _)) := ⟨rf_start w⟩
    obtain ⟨B, hB⟩ : ∃ B, Hid (w.heap.size = B) := ⟨_, show _ = _ from rfl⟩
    rw [show w.heap.size = B from hB.out] at HS
    rw [show w.heap.size = B from hB.out]
    clear h e0 hn hf
    go_enter Tryz.func9, Tryz.ntmps9
    go_wp2_with fail
    rw [show w.heap.size = B from hB.out]
    go_loopw [3] (fun z wr => ∃ j : Nat, z = .int .i64 j ∧ j ≤ L.length ∧ Hid (j ≤ firstN (fun k => decide (qR L k ≠ 0)) L.length ∧ RF w wr B)) (fun z _ => L.length - (intOf z).toNat)
    case atStart => exact ⟨0, rfl, Nat.zero_le _, ⟨Nat.zero_le _, HS.out⟩⟩
    case round =>
      clear HS
      obtain ⟨j, rfl, hjl, HX⟩ := hrel
      by_cases hlt : j < L.length
      · have q3 : (j : Int) < L.length := by omega
        obtain ⟨b0, o0, rfl, x0⟩ := HR.out j hlt
        obtain ⟨d0, d1, d2, d3, d4, d5, d6, d7, d8, d9, d10⟩ := (x0.below (by rw [show w.heap.size = B from hB.out]; exact HX.out.2.2)).cells
        obtain ⟨r, hr⟩ : ∃ r, Hid (L[j] = r) := ⟨_, show _ = _ from rfl⟩
        rw [show L[j] = r from hr.out] at d0 d1 d2 d3 d4 d5 d6 d7 d8 d9 d10
        obtain ⟨HQ⟩ : Nonempty (Hid (qR L j = chkR r)) := ⟨show _ = _ by unfold qR; rw [ruleN_at L j hlt, hr.out]⟩
        obtain ⟨ck, hck⟩ : ∃ c : Int, Hid ((chkC r.wa r.wn : Int) = c) := ⟨_, show _ = _ from rfl⟩
        obtain ⟨HC⟩ : Nonempty (Hid (∀ w', Calls _ _ _ _ _)) := ⟨fun w' => rPrefixError_at r.wa r.wn ck hck w'⟩
        obtain ⟨HB⟩ : Nonempty (Hid (Below wr.heap.size wr _ ∧ RuleAt _ wr.heap.size 0 r)) := ⟨rule_boxed wr r⟩
        clear x0 hr
        by_cases h0 : ck = 0
        · have hcz : chkC r.wa r.wn = 0 := by have := hck.out; omega
          subst h0
          by_cases g0 : r.lo < 0
          · have t0 : decide (r.lo < 0) = true := decide_eq_true g0
            have hff : (2 : Int) = f0 ∧ (j : Int) = f1 := by
              have hq := HQ.out.trans (rule_bad r hcz (by omega))
              have e := firstN_here (bad := fun k => decide (qR L k ≠ 0)) HX.out.1 (by simp [hq])
              have h := HF.out
              unfold firstQ at h
              rw [e, if_pos hlt, hq] at h
              exact h
            obtain ⟨rfl, rfl⟩ := hff
            clear HF HQ hcz g0
            go_wp2_with fail
            refine (HC.out _).mono ?_
            rintro e w1 ⟨rfl, hb1⟩
            obtain ⟨HB1⟩ : Nonempty (Hid (RuleAt w1 wr.heap.size 0 r ∧ RF w w1 B)) := ⟨⟨HB.out.2.below hb1, (HX.out.2.on HB.out.1).on hb1⟩⟩
            obtain ⟨c0, c1, c2, c3, c4, c5, c6, c7, c8, c9, c10⟩ := HB1.out.1.cells0
            obtain ⟨s0, s1, z0, z1⟩ := HB1.out.2.res
            clear hb1 d0 d1 d2 d3 d4 d5 d6 d7 d8 d9 d10 HC HB
            go_wp2_with fail
            exact bodyPost_ret (v := .agg #[.int .i64 2, .int .i64 j]) (by simp [results, Tryz.results9, go_sem, s0, s1]) rfl ⟨rfl, rf_end HB1.out.2.2 _ _⟩
          · have t0 : decide (r.lo < 0) = false := decide_eq_false g0
            by_cases g1 : r.hi < r.lo
            · have t1 : decide (r.hi < r.lo) = true := decide_eq_true g1
              have hff : (2 : Int) = f0 ∧ (j : Int) = f1 := by
                have hq := HQ.out.trans (rule_bad r hcz (by omega))
                have e := firstN_here (bad := fun k => decide (qR L k ≠ 0)) HX.out.1 (by simp [hq])
                have h := HF.out
                unfold firstQ at h
                rw [e, if_pos hlt, hq] at h
                exact h
              obtain ⟨rfl, rfl⟩ := hff
              clear HF HQ hcz g0 g1
              go_wp2_with fail
              refine (HC.out _).mono ?_
              rintro e w1 ⟨rfl, hb1⟩
              obtain ⟨HB1⟩ : Nonempty (Hid (RuleAt w1 wr.heap.size 0 r ∧ RF w w1 B)) := ⟨⟨HB.out.2.below hb1, (HX.out.2.on HB.out.1).on hb1⟩⟩
              obtain ⟨c0, c1, c2, c3, c4, c5, c6, c7, c8, c9, c10⟩ := HB1.out.1.cells0
              obtain ⟨s0, s1, z0, z1⟩ := HB1.out.2.res
              clear hb1 d0 d1 d2 d3 d4 d5 d6 d7 d8 d9 d10 HC HB
              go_wp2_with fail
              exact bodyPost_ret (v := .agg #[.int .i64 2, .int .i64 j]) (by simp [results, Tryz.results9, go_sem, s0, s1]) rfl ⟨rfl, rf_end HB1.out.2.2 _ _⟩
            · have t1 : decide (r.hi < r.lo) = false := decide_eq_false g1
              by_cases g2 : 32 < r.hi
              · have t2 : decide (32 < r.hi) = true := decide_eq_true g2
                have hff : (2 : Int) = f0 ∧ (j : Int) = f1 := by
                  have hq := HQ.out.trans (rule_bad r hcz (by omega))
                  have e := firstN_here (bad := fun k => decide (qR L k ≠ 0)) HX.out.1 (by simp [hq])
                  have h := HF.out
                  unfold firstQ at h
                  rw [e, if_pos hlt, hq] at h
                  exact h
                obtain ⟨rfl, rfl⟩ := hff
                clear HF HQ hcz g0 g1 g2
                go_wp2_with fail
                refine (HC.out _).mono ?_
                rintro e w1 ⟨rfl, hb1⟩
                obtain ⟨HB1⟩ : Nonempty (Hid (RuleAt w1 wr.heap.size 0 r ∧ RF w w1 B)) := ⟨⟨HB.out.2.below hb1, (HX.out.2.on HB.out.1).on hb1⟩⟩
                obtain ⟨c0, c1, c2, c3, c4, c5, c6, c7, c8, c9, c10⟩ := HB1.out.1.cells0
                obtain ⟨s0, s1, z0, z1⟩ := HB1.out.2.res
                clear hb1 d0 d1 d2 d3 d4 d5 d6 d7 d8 d9 d10 HC HB
                go_wp2_with fail
                exact bodyPost_ret (v := .agg #[.int .i64 2, .int .i64 j]) (by simp [results, Tryz.results9, go_sem, s0, s1]) rfl ⟨rfl, rf_end HB1.out.2.2 _ _⟩
              · have t2 : decide (32 < r.hi) = false := decide_eq_false g2
                by_cases g3 : r.tag < 0
                · have t3 : decide (r.tag < 0) = true := decide_eq_true g3
                  have hff : (2 : Int) = f0 ∧ (j : Int) = f1 := by
                    have hq := HQ.out.trans (rule_bad r hcz (by omega))
                    have e := firstN_here (bad := fun k => decide (qR L k ≠ 0)) HX.out.1 (by simp [hq])
                    have h := HF.out
                    unfold firstQ at h
                    rw [e, if_pos hlt, hq] at h
                    exact h
                  obtain ⟨rfl, rfl⟩ := hff
                  clear HF HQ hcz g0 g1 g2 g3
                  go_wp2_with fail
                  refine (HC.out _).mono ?_
                  rintro e w1 ⟨rfl, hb1⟩
                  obtain ⟨HB1⟩ : Nonempty (Hid (RuleAt w1 wr.heap.size 0 r ∧ RF w w1 B)) := ⟨⟨HB.out.2.below hb1, (HX.out.2.on HB.out.1).on hb1⟩⟩
                  obtain ⟨c0, c1, c2, c3, c4, c5, c6, c7, c8, c9, c10⟩ := HB1.out.1.cells0
                  obtain ⟨s0, s1, z0, z1⟩ := HB1.out.2.res
                  clear hb1 d0 d1 d2 d3 d4 d5 d6 d7 d8 d9 d10 HC HB
                  go_wp2_with fail
                  exact bodyPost_ret (v := .agg #[.int .i64 2, .int .i64 j]) (by simp [results, Tryz.results9, go_sem, s0, s1]) rfl ⟨rfl, rf_end HB1.out.2.2 _ _⟩
                · have t3 : decide (r.tag < 0) = false := decide_eq_false g3
                  by_cases g4 : 9999 < r.tag
                  · have t4 : decide (9999 < r.tag) = true := decide_eq_true g4
                    have hff : (2 : Int) = f0 ∧ (j : Int) = f1 := by
                      have hq := HQ.out.trans (rule_bad r hcz (by omega))
                      have e := firstN_here (bad := fun k => decide (qR L k ≠ 0)) HX.out.1 (by simp [hq])
                      have h := HF.out
                      unfold firstQ at h
                      rw [e, if_pos hlt, hq] at h
                      exact h
                    obtain ⟨rfl, rfl⟩ := hff
                    clear HF HQ hcz g0 g1 g2 g3 g4
                    go_wp2_with fail
                    refine (HC.out _).mono ?_
                    rintro e w1 ⟨rfl, hb1⟩
                    obtain ⟨HB1⟩ : Nonempty (Hid (RuleAt w1 wr.heap.size 0 r ∧ RF w w1 B)) := ⟨⟨HB.out.2.below hb1, (HX.out.2.on HB.out.1).on hb1⟩⟩
                    obtain ⟨c0, c1, c2, c3, c4, c5, c6, c7, c8, c9, c10⟩ := HB1.out.1.cells0
                    obtain ⟨s0, s1, z0, z1⟩ := HB1.out.2.res
                    clear hb1 d0 d1 d2 d3 d4 d5 d6 d7 d8 d9 d10 HC HB
                    go_wp2_with fail
                    exact bodyPost_ret (v := .agg #[.int .i64 2, .int .i64 j]) (by simp [results, Tryz.results9, go_sem, s0, s1]) rfl ⟨rfl, rf_end HB1.out.2.2 _ _⟩
                  · have t4 : decide (9999 < r.tag) = false := decide_eq_false g4
                    by_cases g5 : r.add < 0
                    · have t5 : decide (r.add < 0) = true := decide_eq_true g5
                      have hff : (2 : Int) = f0 ∧ (j : Int) = f1 := by
                        have hq := HQ.out.trans (rule_bad r hcz (by omega))
                        have e := firstN_here (bad := fun k => decide (qR L k ≠ 0)) HX.out.1 (by simp [hq])
                        have h := HF.out
                        unfold firstQ at h
                        rw [e, if_pos hlt, hq] at h
                        exact h
                      obtain ⟨rfl, rfl⟩ := hff
                      clear HF HQ hcz g0 g1 g2 g3 g4 g5
                      go_wp2_with fail
                      refine (HC.out _).mono ?_
                      rintro e w1 ⟨rfl, hb1⟩
                      obtain ⟨HB1⟩ : Nonempty (Hid (RuleAt w1 wr.heap.size 0 r ∧ RF w w1 B)) := ⟨⟨HB.out.2.below hb1, (HX.out.2.on HB.out.1).on hb1⟩⟩
                      obtain ⟨c0, c1, c2, c3, c4, c5, c6, c7, c8, c9, c10⟩ := HB1.out.1.cells0
                      obtain ⟨s0, s1, z0, z1⟩ := HB1.out.2.res
                      clear hb1 d0 d1 d2 d3 d4 d5 d6 d7 d8 d9 d10 HC HB
                      go_wp2_with fail
                      exact bodyPost_ret (v := .agg #[.int .i64 2, .int .i64 j]) (by simp [results, Tryz.results9, go_sem, s0, s1]) rfl ⟨rfl, rf_end HB1.out.2.2 _ _⟩
                    · have t5 : decide (r.add < 0) = false := decide_eq_false g5
                      by_cases g6 : 9999 < r.add
                      · have t6 : decide (9999 < r.add) = true := decide_eq_true g6
                        have hff : (2 : Int) = f0 ∧ (j : Int) = f1 := by
                          have hq := HQ.out.trans (rule_bad r hcz (by omega))
                          have e := firstN_here (bad := fun k => decide (qR L k ≠ 0)) HX.out.1 (by simp [hq])
                          have h := HF.out
                          unfold firstQ at h
                          rw [e, if_pos hlt, hq] at h
                          exact h
                        obtain ⟨rfl, rfl⟩ := hff
                        clear HF HQ hcz g0 g1 g2 g3 g4 g5 g6
                        go_wp2_with fail
                        refine (HC.out _).mono ?_
                        rintro e w1 ⟨rfl, hb1⟩
                        obtain ⟨HB1⟩ : Nonempty (Hid (RuleAt w1 wr.heap.size 0 r ∧ RF w w1 B)) := ⟨⟨HB.out.2.below hb1, (HX.out.2.on HB.out.1).on hb1⟩⟩
                        obtain ⟨c0, c1, c2, c3, c4, c5, c6, c7, c8, c9, c10⟩ := HB1.out.1.cells0
                        obtain ⟨s0, s1, z0, z1⟩ := HB1.out.2.res
                        clear hb1 d0 d1 d2 d3 d4 d5 d6 d7 d8 d9 d10 HC HB
                        go_wp2_with fail
                        exact bodyPost_ret (v := .agg #[.int .i64 2, .int .i64 j]) (by simp [results, Tryz.results9, go_sem, s0, s1]) rfl ⟨rfl, rf_end HB1.out.2.2 _ _⟩
                      · have t6 : decide (9999 < r.add) = false := decide_eq_false g6
                        by_cases g7 : r.sys < 0
                        · have t7 : decide (r.sys < 0) = true := decide_eq_true g7
                          have hff : (2 : Int) = f0 ∧ (j : Int) = f1 := by
                            have hq := HQ.out.trans (rule_bad r hcz (by omega))
                            have e := firstN_here (bad := fun k => decide (qR L k ≠ 0)) HX.out.1 (by simp [hq])
                            have h := HF.out
                            unfold firstQ at h
                            rw [e, if_pos hlt, hq] at h
                            exact h
                          obtain ⟨rfl, rfl⟩ := hff
                          clear HF HQ hcz g0 g1 g2 g3 g4 g5 g6 g7
                          go_wp2_with fail
                          refine (HC.out _).mono ?_
                          rintro e w1 ⟨rfl, hb1⟩
                          obtain ⟨HB1⟩ : Nonempty (Hid (RuleAt w1 wr.heap.size 0 r ∧ RF w w1 B)) := ⟨⟨HB.out.2.below hb1, (HX.out.2.on HB.out.1).on hb1⟩⟩
                          obtain ⟨c0, c1, c2, c3, c4, c5, c6, c7, c8, c9, c10⟩ := HB1.out.1.cells0
                          obtain ⟨s0, s1, z0, z1⟩ := HB1.out.2.res
                          clear hb1 d0 d1 d2 d3 d4 d5 d6 d7 d8 d9 d10 HC HB
                          go_wp2_with fail
                          exact bodyPost_ret (v := .agg #[.int .i64 2, .int .i64 j]) (by simp [results, Tryz.results9, go_sem, s0, s1]) rfl ⟨rfl, rf_end HB1.out.2.2 _ _⟩
                        · have t7 : decide (r.sys < 0) = false := decide_eq_false g7
                          by_cases g8 : 1000 < r.sys
                          · have t8 : decide (1000 < r.sys) = true := decide_eq_true g8
                            have hff : (2 : Int) = f0 ∧ (j : Int) = f1 := by
                              have hq := HQ.out.trans (rule_bad r hcz (by omega))
                              have e := firstN_here (bad := fun k => decide (qR L k ≠ 0)) HX.out.1 (by simp [hq])
                              have h := HF.out
                              unfold firstQ at h
                              rw [e, if_pos hlt, hq] at h
                              exact h
                            obtain ⟨rfl, rfl⟩ := hff
                            clear HF HQ hcz g0 g1 g2 g3 g4 g5 g6 g7 g8
                            go_wp2_with fail
                            refine (HC.out _).mono ?_
                            rintro e w1 ⟨rfl, hb1⟩
                            obtain ⟨HB1⟩ : Nonempty (Hid (RuleAt w1 wr.heap.size 0 r ∧ RF w w1 B)) := ⟨⟨HB.out.2.below hb1, (HX.out.2.on HB.out.1).on hb1⟩⟩
                            obtain ⟨c0, c1, c2, c3, c4, c5, c6, c7, c8, c9, c10⟩ := HB1.out.1.cells0
                            obtain ⟨s0, s1, z0, z1⟩ := HB1.out.2.res
                            clear hb1 d0 d1 d2 d3 d4 d5 d6 d7 d8 d9 d10 HC HB
                            go_wp2_with fail
                            exact bodyPost_ret (v := .agg #[.int .i64 2, .int .i64 j]) (by simp [results, Tryz.results9, go_sem, s0, s1]) rfl ⟨rfl, rf_end HB1.out.2.2 _ _⟩
                          · have t8 : decide (1000 < r.sys) = false := decide_eq_false g8
                            by_cases g9 : r.lead < 0
                            · have t9 : decide (r.lead < 0) = true := decide_eq_true g9
                              have hff : (2 : Int) = f0 ∧ (j : Int) = f1 := by
                                have hq := HQ.out.trans (rule_bad r hcz (by omega))
                                have e := firstN_here (bad := fun k => decide (qR L k ≠ 0)) HX.out.1 (by simp [hq])
                                have h := HF.out
                                unfold firstQ at h
                                rw [e, if_pos hlt, hq] at h
                                exact h
                              obtain ⟨rfl, rfl⟩ := hff
                              clear HF HQ hcz g0 g1 g2 g3 g4 g5 g6 g7 g8 g9
                              go_wp2_with fail
                              refine (HC.out _).mono ?_
                              rintro e w1 ⟨rfl, hb1⟩
                              obtain ⟨HB1⟩ : Nonempty (Hid (RuleAt w1 wr.heap.size 0 r ∧ RF w w1 B)) := ⟨⟨HB.out.2.below hb1, (HX.out.2.on HB.out.1).on hb1⟩⟩
                              obtain ⟨c0, c1, c2, c3, c4, c5, c6, c7, c8, c9, c10⟩ := HB1.out.1.cells0
                              obtain ⟨s0, s1, z0, z1⟩ := HB1.out.2.res
                              clear hb1 d0 d1 d2 d3 d4 d5 d6 d7 d8 d9 d10 HC HB
                              go_wp2_with fail
                              exact bodyPost_ret (v := .agg #[.int .i64 2, .int .i64 j]) (by simp [results, Tryz.results9, go_sem, s0, s1]) rfl ⟨rfl, rf_end HB1.out.2.2 _ _⟩
                            · have t9 : decide (r.lead < 0) = false := decide_eq_false g9
                              by_cases g10 : 12 < r.lead
                              · have t10 : decide (12 < r.lead) = true := decide_eq_true g10
                                have hff : (2 : Int) = f0 ∧ (j : Int) = f1 := by
                                  have hq := HQ.out.trans (rule_bad r hcz (by omega))
                                  have e := firstN_here (bad := fun k => decide (qR L k ≠ 0)) HX.out.1 (by simp [hq])
                                  have h := HF.out
                                  unfold firstQ at h
                                  rw [e, if_pos hlt, hq] at h
                                  exact h
                                obtain ⟨rfl, rfl⟩ := hff
                                clear HF HQ hcz g0 g1 g2 g3 g4 g5 g6 g7 g8 g9 g10
                                go_wp2_with fail
                                refine (HC.out _).mono ?_
                                rintro e w1 ⟨rfl, hb1⟩
                                obtain ⟨HB1⟩ : Nonempty (Hid (RuleAt w1 wr.heap.size 0 r ∧ RF w w1 B)) := ⟨⟨HB.out.2.below hb1, (HX.out.2.on HB.out.1).on hb1⟩⟩
                                obtain ⟨c0, c1, c2, c3, c4, c5, c6, c7, c8, c9, c10⟩ := HB1.out.1.cells0
                                obtain ⟨s0, s1, z0, z1⟩ := HB1.out.2.res
                                clear hb1 d0 d1 d2 d3 d4 d5 d6 d7 d8 d9 d10 HC HB
                                go_wp2_with fail
                                exact bodyPost_ret (v := .agg #[.int .i64 2, .int .i64 j]) (by simp [results, Tryz.results9, go_sem, s0, s1]) rfl ⟨rfl, rf_end HB1.out.2.2 _ _⟩
                              · have t10 : decide (12 < r.lead) = false := decide_eq_false g10
                                by_cases g11 : r.pref < -1
                                · have t11 : decide (r.pref < -1) = true := decide_eq_true g11
                                  have hff : (2 : Int) = f0 ∧ (j : Int) = f1 := by
                                    have hq := HQ.out.trans (rule_bad r hcz (by omega))
                                    have e := firstN_here (bad := fun k => decide (qR L k ≠ 0)) HX.out.1 (by simp [hq])
                                    have h := HF.out
                                    unfold firstQ at h
                                    rw [e, if_pos hlt, hq] at h
                                    exact h
                                  obtain ⟨rfl, rfl⟩ := hff
                                  clear HF HQ hcz g0 g1 g2 g3 g4 g5 g6 g7 g8 g9 g10 g11
                                  go_wp2_with fail
                                  refine (HC.out _).mono ?_
                                  rintro e w1 ⟨rfl, hb1⟩
                                  obtain ⟨HB1⟩ : Nonempty (Hid (RuleAt w1 wr.heap.size 0 r ∧ RF w w1 B)) := ⟨⟨HB.out.2.below hb1, (HX.out.2.on HB.out.1).on hb1⟩⟩
                                  obtain ⟨c0, c1, c2, c3, c4, c5, c6, c7, c8, c9, c10⟩ := HB1.out.1.cells0
                                  obtain ⟨s0, s1, z0, z1⟩ := HB1.out.2.res
                                  clear hb1 d0 d1 d2 d3 d4 d5 d6 d7 d8 d9 d10 HC HB
                                  go_wp2_with fail
                                  exact bodyPost_ret (v := .agg #[.int .i64 2, .int .i64 j]) (by simp [results, Tryz.results9, go_sem, s0, s1]) rfl ⟨rfl, rf_end HB1.out.2.2 _ _⟩
                                · have t11 : decide (r.pref < -1) = false := decide_eq_false g11
                                  by_cases g12 : 1000 < r.pref
                                  · have t12 : decide (1000 < r.pref) = true := decide_eq_true g12
                                    have hff : (2 : Int) = f0 ∧ (j : Int) = f1 := by
                                      have hq := HQ.out.trans (rule_bad r hcz (by omega))
                                      have e := firstN_here (bad := fun k => decide (qR L k ≠ 0)) HX.out.1 (by simp [hq])
                                      have h := HF.out
                                      unfold firstQ at h
                                      rw [e, if_pos hlt, hq] at h
                                      exact h
                                    obtain ⟨rfl, rfl⟩ := hff
                                    clear HF HQ hcz g0 g1 g2 g3 g4 g5 g6 g7 g8 g9 g10 g11 g12
                                    go_wp2_with fail
                                    refine (HC.out _).mono ?_
                                    rintro e w1 ⟨rfl, hb1⟩
                                    obtain ⟨HB1⟩ : Nonempty (Hid (RuleAt w1 wr.heap.size 0 r ∧ RF w w1 B)) := ⟨⟨HB.out.2.below hb1, (HX.out.2.on HB.out.1).on hb1⟩⟩
                                    obtain ⟨c0, c1, c2, c3, c4, c5, c6, c7, c8, c9, c10⟩ := HB1.out.1.cells0
                                    obtain ⟨s0, s1, z0, z1⟩ := HB1.out.2.res
                                    clear hb1 d0 d1 d2 d3 d4 d5 d6 d7 d8 d9 d10 HC HB
                                    go_wp2_with fail
                                    exact bodyPost_ret (v := .agg #[.int .i64 2, .int .i64 j]) (by simp [results, Tryz.results9, go_sem, s0, s1]) rfl ⟨rfl, rf_end HB1.out.2.2 _ _⟩
                                  · have t12 : decide (1000 < r.pref) = false := decide_eq_false g12
                                    by_cases g13 : r.med < -1
                                    · have t13 : decide (r.med < -1) = true := decide_eq_true g13
                                      have hff : (2 : Int) = f0 ∧ (j : Int) = f1 := by
                                        have hq := HQ.out.trans (rule_bad r hcz (by omega))
                                        have e := firstN_here (bad := fun k => decide (qR L k ≠ 0)) HX.out.1 (by simp [hq])
                                        have h := HF.out
                                        unfold firstQ at h
                                        rw [e, if_pos hlt, hq] at h
                                        exact h
                                      obtain ⟨rfl, rfl⟩ := hff
                                      clear HF HQ hcz g0 g1 g2 g3 g4 g5 g6 g7 g8 g9 g10 g11 g12 g13
                                      go_wp2_with fail
                                      refine (HC.out _).mono ?_
                                      rintro e w1 ⟨rfl, hb1⟩
                                      obtain ⟨HB1⟩ : Nonempty (Hid (RuleAt w1 wr.heap.size 0 r ∧ RF w w1 B)) := ⟨⟨HB.out.2.below hb1, (HX.out.2.on HB.out.1).on hb1⟩⟩
                                      obtain ⟨c0, c1, c2, c3, c4, c5, c6, c7, c8, c9, c10⟩ := HB1.out.1.cells0
                                      obtain ⟨s0, s1, z0, z1⟩ := HB1.out.2.res
                                      clear hb1 d0 d1 d2 d3 d4 d5 d6 d7 d8 d9 d10 HC HB
                                      go_wp2_with fail
                                      exact bodyPost_ret (v := .agg #[.int .i64 2, .int .i64 j]) (by simp [results, Tryz.results9, go_sem, s0, s1]) rfl ⟨rfl, rf_end HB1.out.2.2 _ _⟩
                                    · have t13 : decide (r.med < -1) = false := decide_eq_false g13
                                      by_cases g14 : 1000 < r.med
                                      · have t14 : decide (1000 < r.med) = true := decide_eq_true g14
                                        have hff : (2 : Int) = f0 ∧ (j : Int) = f1 := by
                                          have hq := HQ.out.trans (rule_bad r hcz (by omega))
                                          have e := firstN_here (bad := fun k => decide (qR L k ≠ 0)) HX.out.1 (by simp [hq])
                                          have h := HF.out
                                          unfold firstQ at h
                                          rw [e, if_pos hlt, hq] at h
                                          exact h
                                        obtain ⟨rfl, rfl⟩ := hff
                                        clear HF HQ hcz g0 g1 g2 g3 g4 g5 g6 g7 g8 g9 g10 g11 g12 g13 g14
                                        go_wp2_with fail
                                        refine (HC.out _).mono ?_
                                        rintro e w1 ⟨rfl, hb1⟩
                                        obtain ⟨HB1⟩ : Nonempty (Hid (RuleAt w1 wr.heap.size 0 r ∧ RF w w1 B)) := ⟨⟨HB.out.2.below hb1, (HX.out.2.on HB.out.1).on hb1⟩⟩
                                        obtain ⟨c0, c1, c2, c3, c4, c5, c6, c7, c8, c9, c10⟩ := HB1.out.1.cells0
                                        obtain ⟨s0, s1, z0, z1⟩ := HB1.out.2.res
                                        clear hb1 d0 d1 d2 d3 d4 d5 d6 d7 d8 d9 d10 HC HB
                                        go_wp2_with fail
                                        exact bodyPost_ret (v := .agg #[.int .i64 2, .int .i64 j]) (by simp [results, Tryz.results9, go_sem, s0, s1]) rfl ⟨rfl, rf_end HB1.out.2.2 _ _⟩
                                      · have t14 : decide (1000 < r.med) = false := decide_eq_false g14
                                        obtain ⟨HN⟩ : Nonempty (Hid (j + 1 ≤ firstN (fun k => decide (qR L k ≠ 0)) L.length)) := ⟨firstN_step HX.out.1 hlt (by have hq := HQ.out.trans (rule_fine r hcz (by omega)); simp [hq])⟩
                                        clear HF HQ hcz g0 g1 g2 g3 g4 g5 g6 g7 g8 g9 g10 g11 g12 g13 g14
                                        go_wp2_with fail
                                        refine (HC.out _).mono ?_
                                        rintro e w1 ⟨rfl, hb1⟩
                                        obtain ⟨HB1⟩ : Nonempty (Hid (RuleAt w1 wr.heap.size 0 r ∧ RF w w1 B)) := ⟨⟨HB.out.2.below hb1, (HX.out.2.on HB.out.1).on hb1⟩⟩
                                        obtain ⟨c0, c1, c2, c3, c4, c5, c6, c7, c8, c9, c10⟩ := HB1.out.1.cells0
                                        obtain ⟨s0, s1, z0, z1⟩ := HB1.out.2.res
                                        clear hb1 d0 d1 d2 d3 d4 d5 d6 d7 d8 d9 d10 HC HB
                                        go_wp2_with fail
                                        go_roundw
                                        case rel => exact ⟨j + 1, by go_num, by omega, ⟨HN.out, HB1.out.2⟩⟩
                                        case measure => simp [intOf]; omega
        · have hcp : 0 < chkC r.wa r.wn := by have := hck.out; omega
          have hpos : 0 < ck := by have := hck.out; omega
          have h0' : (ck == 0) = false := by rw [beq_eq_false_iff_ne]; exact h0
          have hff : ck = f0 ∧ (j : Int) = f1 := by
            have hq := HQ.out.trans (rule_else r hcp)
            have e := firstN_here (bad := fun k => decide (qR L k ≠ 0)) HX.out.1 (by simp [hq]; omega)
            have h := HF.out
            unfold firstQ at h
            rw [e, if_pos hlt, hq] at h
            exact ⟨by rw [← h.1]; exact hck.out.symm, h.2⟩
          obtain ⟨rfl, rfl⟩ := hff
          clear HF HQ hcp h0
          go_wp2_with fail
          refine (HC.out _).mono ?_
          rintro e w1 ⟨rfl, hb1⟩
          obtain ⟨HB1⟩ : Nonempty (Hid (RuleAt w1 wr.heap.size 0 r ∧ RF w w1 B)) := ⟨⟨HB.out.2.below hb1, (HX.out.2.on HB.out.1).on hb1⟩⟩
          obtain ⟨c0, c1, c2, c3, c4, c5, c6, c7, c8, c9, c10⟩ := HB1.out.1.cells0
          obtain ⟨s0, s1, z0, z1⟩ := HB1.out.2.res
          clear hb1 d0 d1 d2 d3 d4 d5 d6 d7 d8 d9 d10 HC HB
          go_wp2_with fail
          exact bodyPost_ret (v := .agg #[.int .i64 ck, .int .i64 j]) (by simp [results, Tryz.results9, go_sem, s0, s1]) rfl ⟨rfl, rf_end HB1.out.2.2 _ _⟩
      · obtain rfl : j = L.length := by omega
        have hff : (0 : Int) = f0 ∧ (-1 : Int) = f1 := by
          have h := HF.out
          unfold firstQ at h
          rw [firstN_end HX.out.1, if_neg (by omega)] at h
          exact h
        obtain ⟨rfl, rfl⟩ := hff
        clear HF
        go_wp2_with fail
        refine (aFine_any _).mono ?_
        rintro e w1 ⟨rfl, hb1⟩
        obtain ⟨HA⟩ : Nonempty (Hid (RF w w1 B)) := ⟨HX.out.2.on hb1⟩
        obtain ⟨s0, s1, z0, z1⟩ := HA.out.res
        clear hb1
        go_wp2_with fail
        exact bodyPost_ret (v := .agg #[.int .i64 0, .int .i64 (-1)]) (by simp [results, Tryz.results9, go_sem, s0, s1]) rfl ⟨rfl, rf_end HA.out.2 _ _⟩

set_option linter.unusedSimpArgs false in
set_option linter.unusedVariables false in
set_option maxRecDepth 100000 in
set_option maxHeartbeats 4000000 in
theorem rDoesFit_any (r : Rl) (ta tn : Int) (v : Value) (A : At) (w : World) (h : IsAttr w v A) (h1 : A.path.length ≤ 1000000) (h2 : A.tags.length ≤ 1000000) :
    Calls Tryz.prog 10 #[rlV r, .agg #[.int .i64 ta, .int .i64 tn], v] w fun e w' => e = .returned (.bool (fitsB r ta tn A)) ∧ Below w.heap.size w w' := by
  obtain ⟨p, cp, q, cq, rfl, i1, i2⟩ := h
  obtain ⟨HI⟩ : Nonempty (Hid (∀ w', Calls _ _ _ _ _)) := ⟨fun w' => rIsIn_any ta tn r.wa r.wn w'⟩
  obtain ⟨HT⟩ : Nonempty (Hid (∀ w', Below w.heap.size w w' → Calls _ _ _ _ _)) := ⟨fun w' hb => rInInts_any r.tag q A.tags A.tags.length cq w' (i2.below hb) rfl h2⟩
  obtain ⟨HS⟩ : Nonempty (Hid (∀ w', Below w.heap.size w w' → Calls _ _ _ _ _)) := ⟨fun w' hb => rInInts_any r.sys p A.path A.path.length cp w' (i1.below hb) rfl h1⟩
  obtain ⟨HF⟩ : Nonempty (Hid (FB w _ w.heap.size r ta tn #[.slice p A.path.length cp, .int .i64 A.pref, .int .i64 A.med, .int .i64 A.org, .slice q A.tags.length cq])) := ⟨fb_start w r ta tn _⟩
  obtain ⟨bi, hbi⟩ : ∃ b, Hid (inB ta tn r.wa r.wn = b) := ⟨_, show _ = _ from rfl⟩
  obtain ⟨b1, hb1⟩ : ∃ b, Hid (decide (tn < r.lo) = b) := ⟨_, show _ = _ from rfl⟩
  obtain ⟨b2, hb2⟩ : ∃ b, Hid (decide (r.hi < tn) = b) := ⟨_, show _ = _ from rfl⟩
  obtain ⟨bt, hbt⟩ : ∃ b, Hid (A.tags.contains r.tag = b) := ⟨_, show _ = _ from rfl⟩
  obtain ⟨bs, hbs⟩ : ∃ b, Hid (A.path.contains r.sys = b) := ⟨_, show _ = _ from rfl⟩
  obtain ⟨zt, hzt⟩ : ∃ b, Hid ((r.tag == 0) = b) := ⟨_, show _ = _ from rfl⟩
  obtain ⟨zs, hzs⟩ : ∃ b, Hid ((r.sys == 0) = b) := ⟨_, show _ = _ from rfl⟩
  have HX : Hid (fitsB r ta tn A = (bi && (!b1 && !b2) && (zt || bt) && (zs || bs))) := by
    show _ = _
    unfold fitsB tagB sysB
    rw [hbi.out, hbt.out, hbs.out, hzt.out, hzs.out, ← hb1.out, ← hb2.out]
    unfold inB3
    rw [← decide_not, ← decide_not]
    simp only [Int.not_lt]
  rw [HX.out]
  simp only [show inB ta tn r.wa r.wn = bi from hbi.out] at HI
  simp only [show A.tags.contains r.tag = bt from hbt.out] at HT
  simp only [show A.path.contains r.sys = bs from hbs.out] at HS
  unfold rlV
  obtain ⟨wa, wn, lo, hi, tag, sys, deny, pref, med, add, lead⟩ := r
  obtain ⟨P, f0, n, o, T⟩ := A
  simp only at *
  clear i1 i2 h1 h2 hbi hbt hbs HX
  cases bi with
  | false =>
    simp only [Bool.true_or, Bool.or_true, Bool.false_or, Bool.true_and, Bool.and_true, Bool.and_false, Bool.false_and, Bool.or_false, Bool.not_true, Bool.not_false]
    go_enter Tryz.func10, Tryz.ntmps10
    go_wp2_with fail
    refine (HI.out _).mono ?_
    rintro e w1 ⟨rfl, hb1⟩
    obtain ⟨HF1⟩ : Nonempty (Hid (FB w w1 w.heap.size _ ta tn _)) := ⟨HF.out.on hb1⟩
    clear hb1
    obtain ⟨c0, c1, c2, c3, c4, c5, c6, c7, c8, c9, c10⟩ := HF1.out.1.cells0
    obtain ⟨d0, d1, e0, e1, e2, e3, e4⟩ := HF1.out.cells
    go_wp2_with fail
    go_ret
    exact ⟨rfl, HF1.out.2.2.2⟩
  | true =>
    cases b1 with
    | false =>
      have b1' : decide (tn < lo) = false := hb1.out
      cases b2 with
      | false =>
        have b2' : decide (hi < tn) = false := hb2.out
        cases zt with
        | false =>
          have zt' : (tag == 0) = false := hzt.out
          have zt'' : (tag != 0) = true := by unfold bne; rw [zt']; rfl
          cases bt with
          | false =>
            simp only [Bool.true_or, Bool.or_true, Bool.false_or, Bool.true_and, Bool.and_true, Bool.and_false, Bool.false_and, Bool.or_false, Bool.not_true, Bool.not_false]
            go_enter Tryz.func10, Tryz.ntmps10
            go_wp2_with fail
            refine (HI.out _).mono ?_
            rintro e w1 ⟨rfl, hb1⟩
            obtain ⟨HF1⟩ : Nonempty (Hid (FB w w1 w.heap.size _ ta tn _)) := ⟨HF.out.on hb1⟩
            clear hb1
            obtain ⟨c0, c1, c2, c3, c4, c5, c6, c7, c8, c9, c10⟩ := HF1.out.1.cells0
            obtain ⟨d0, d1, e0, e1, e2, e3, e4⟩ := HF1.out.cells
            go_wp2_with fail
            refine (HT.out _ HF1.out.2.2.2).mono ?_
            rintro e w2 ⟨rfl, hb2⟩
            obtain ⟨HF2⟩ : Nonempty (Hid (FB w w2 w.heap.size _ ta tn _)) := ⟨HF1.out.on hb2⟩
            clear hb2
            clear c0 c1 c2 c3 c4 c5 c6 c7 c8 c9 c10 d0 d1 e0 e1 e2 e3 e4
            obtain ⟨c0, c1, c2, c3, c4, c5, c6, c7, c8, c9, c10⟩ := HF2.out.1.cells0
            obtain ⟨d0, d1, e0, e1, e2, e3, e4⟩ := HF2.out.cells
            go_wp2_with fail
            go_ret
            exact ⟨rfl, HF2.out.2.2.2⟩
          | true =>
            cases zs with
            | false =>
              have zs' : (sys == 0) = false := hzs.out
              have zs'' : (sys != 0) = true := by unfold bne; rw [zs']; rfl
              cases bs with
              | false =>
                simp only [Bool.true_or, Bool.or_true, Bool.false_or, Bool.true_and, Bool.and_true, Bool.and_false, Bool.false_and, Bool.or_false, Bool.not_true, Bool.not_false]
                go_enter Tryz.func10, Tryz.ntmps10
                go_wp2_with fail
                refine (HI.out _).mono ?_
                rintro e w1 ⟨rfl, hb1⟩
                obtain ⟨HF1⟩ : Nonempty (Hid (FB w w1 w.heap.size _ ta tn _)) := ⟨HF.out.on hb1⟩
                clear hb1
                obtain ⟨c0, c1, c2, c3, c4, c5, c6, c7, c8, c9, c10⟩ := HF1.out.1.cells0
                obtain ⟨d0, d1, e0, e1, e2, e3, e4⟩ := HF1.out.cells
                go_wp2_with fail
                refine (HT.out _ HF1.out.2.2.2).mono ?_
                rintro e w2 ⟨rfl, hb2⟩
                obtain ⟨HF2⟩ : Nonempty (Hid (FB w w2 w.heap.size _ ta tn _)) := ⟨HF1.out.on hb2⟩
                clear hb2
                clear c0 c1 c2 c3 c4 c5 c6 c7 c8 c9 c10 d0 d1 e0 e1 e2 e3 e4
                obtain ⟨c0, c1, c2, c3, c4, c5, c6, c7, c8, c9, c10⟩ := HF2.out.1.cells0
                obtain ⟨d0, d1, e0, e1, e2, e3, e4⟩ := HF2.out.cells
                go_wp2_with fail
                refine (HS.out _ HF2.out.2.2.2).mono ?_
                rintro e w3 ⟨rfl, hb3⟩
                obtain ⟨HF3⟩ : Nonempty (Hid (FB w w3 w.heap.size _ ta tn _)) := ⟨HF2.out.on hb3⟩
                clear hb3
                clear c0 c1 c2 c3 c4 c5 c6 c7 c8 c9 c10 d0 d1 e0 e1 e2 e3 e4
                obtain ⟨c0, c1, c2, c3, c4, c5, c6, c7, c8, c9, c10⟩ := HF3.out.1.cells0
                obtain ⟨d0, d1, e0, e1, e2, e3, e4⟩ := HF3.out.cells
                go_wp2_with fail
                go_ret
                exact ⟨rfl, HF3.out.2.2.2⟩
              | true =>
                simp only [Bool.true_or, Bool.or_true, Bool.false_or, Bool.true_and, Bool.and_true, Bool.and_false, Bool.false_and, Bool.or_false, Bool.not_true, Bool.not_false]
                go_enter Tryz.func10, Tryz.ntmps10
                go_wp2_with fail
                refine (HI.out _).mono ?_
                rintro e w1 ⟨rfl, hb1⟩
                obtain ⟨HF1⟩ : Nonempty (Hid (FB w w1 w.heap.size _ ta tn _)) := ⟨HF.out.on hb1⟩
                clear hb1
                obtain ⟨c0, c1, c2, c3, c4, c5, c6, c7, c8, c9, c10⟩ := HF1.out.1.cells0
                obtain ⟨d0, d1, e0, e1, e2, e3, e4⟩ := HF1.out.cells
                go_wp2_with fail
                refine (HT.out _ HF1.out.2.2.2).mono ?_
                rintro e w2 ⟨rfl, hb2⟩
                obtain ⟨HF2⟩ : Nonempty (Hid (FB w w2 w.heap.size _ ta tn _)) := ⟨HF1.out.on hb2⟩
                clear hb2
                clear c0 c1 c2 c3 c4 c5 c6 c7 c8 c9 c10 d0 d1 e0 e1 e2 e3 e4
                obtain ⟨c0, c1, c2, c3, c4, c5, c6, c7, c8, c9, c10⟩ := HF2.out.1.cells0
                obtain ⟨d0, d1, e0, e1, e2, e3, e4⟩ := HF2.out.cells
                go_wp2_with fail
                refine (HS.out _ HF2.out.2.2.2).mono ?_
                rintro e w3 ⟨rfl, hb3⟩
                obtain ⟨HF3⟩ : Nonempty (Hid (FB w w3 w.heap.size _ ta tn _)) := ⟨HF2.out.on hb3⟩
                clear hb3
                clear c0 c1 c2 c3 c4 c5 c6 c7 c8 c9 c10 d0 d1 e0 e1 e2 e3 e4
                obtain ⟨c0, c1, c2, c3, c4, c5, c6, c7, c8, c9, c10⟩ := HF3.out.1.cells0
                obtain ⟨d0, d1, e0, e1, e2, e3, e4⟩ := HF3.out.cells
                go_wp2_with fail
                go_ret
                exact ⟨rfl, HF3.out.2.2.2⟩
            | true =>
              have zs' : (sys == 0) = true := hzs.out
              have zs'' : (sys != 0) = false := by unfold bne; rw [zs']; rfl
              simp only [Bool.true_or, Bool.or_true, Bool.false_or, Bool.true_and, Bool.and_true, Bool.and_false, Bool.false_and, Bool.or_false, Bool.not_true, Bool.not_false]
              go_enter Tryz.func10, Tryz.ntmps10
              go_wp2_with fail
              refine (HI.out _).mono ?_
              rintro e w1 ⟨rfl, hb1⟩
              obtain ⟨HF1⟩ : Nonempty (Hid (FB w w1 w.heap.size _ ta tn _)) := ⟨HF.out.on hb1⟩
              clear hb1
              obtain ⟨c0, c1, c2, c3, c4, c5, c6, c7, c8, c9, c10⟩ := HF1.out.1.cells0
              obtain ⟨d0, d1, e0, e1, e2, e3, e4⟩ := HF1.out.cells
              go_wp2_with fail
              refine (HT.out _ HF1.out.2.2.2).mono ?_
              rintro e w2 ⟨rfl, hb2⟩
              obtain ⟨HF2⟩ : Nonempty (Hid (FB w w2 w.heap.size _ ta tn _)) := ⟨HF1.out.on hb2⟩
              clear hb2
              clear c0 c1 c2 c3 c4 c5 c6 c7 c8 c9 c10 d0 d1 e0 e1 e2 e3 e4
              obtain ⟨c0, c1, c2, c3, c4, c5, c6, c7, c8, c9, c10⟩ := HF2.out.1.cells0
              obtain ⟨d0, d1, e0, e1, e2, e3, e4⟩ := HF2.out.cells
              go_wp2_with fail
              refine (HS.out _ HF2.out.2.2.2).mono ?_
              rintro e w3 ⟨rfl, hb3⟩
              obtain ⟨HF3⟩ : Nonempty (Hid (FB w w3 w.heap.size _ ta tn _)) := ⟨HF2.out.on hb3⟩
              clear hb3
              clear c0 c1 c2 c3 c4 c5 c6 c7 c8 c9 c10 d0 d1 e0 e1 e2 e3 e4
              obtain ⟨c0, c1, c2, c3, c4, c5, c6, c7, c8, c9, c10⟩ := HF3.out.1.cells0
              obtain ⟨d0, d1, e0, e1, e2, e3, e4⟩ := HF3.out.cells
              go_wp2_with fail
              go_ret
              exact ⟨rfl, HF3.out.2.2.2⟩
        | true =>
          have zt' : (tag == 0) = true := hzt.out
          have zt'' : (tag != 0) = false := by unfold bne; rw [zt']; rfl
          cases zs with
          | false =>
            have zs' : (sys == 0) = false := hzs.out
            have zs'' : (sys != 0) = true := by unfold bne; rw [zs']; rfl
            cases bs with
            | false =>
              simp only [Bool.true_or, Bool.or_true, Bool.false_or, Bool.true_and, Bool.and_true, Bool.and_false, Bool.false_and, Bool.or_false, Bool.not_true, Bool.not_false]
              go_enter Tryz.func10, Tryz.ntmps10
              go_wp2_with fail
              refine (HI.out _).mono ?_
              rintro e w1 ⟨rfl, hb1⟩
              obtain ⟨HF1⟩ : Nonempty (Hid (FB w w1 w.heap.size _ ta tn _)) := ⟨HF.out.on hb1⟩
              clear hb1
              obtain ⟨c0, c1, c2, c3, c4, c5, c6, c7, c8, c9, c10⟩ := HF1.out.1.cells0
              obtain ⟨d0, d1, e0, e1, e2, e3, e4⟩ := HF1.out.cells
              go_wp2_with fail
              refine (HT.out _ HF1.out.2.2.2).mono ?_
              rintro e w2 ⟨rfl, hb2⟩
              obtain ⟨HF2⟩ : Nonempty (Hid (FB w w2 w.heap.size _ ta tn _)) := ⟨HF1.out.on hb2⟩
              clear hb2
              clear c0 c1 c2 c3 c4 c5 c6 c7 c8 c9 c10 d0 d1 e0 e1 e2 e3 e4
              obtain ⟨c0, c1, c2, c3, c4, c5, c6, c7, c8, c9, c10⟩ := HF2.out.1.cells0
              obtain ⟨d0, d1, e0, e1, e2, e3, e4⟩ := HF2.out.cells
              go_wp2_with fail
              refine (HS.out _ HF2.out.2.2.2).mono ?_
              rintro e w3 ⟨rfl, hb3⟩
              obtain ⟨HF3⟩ : Nonempty (Hid (FB w w3 w.heap.size _ ta tn _)) := ⟨HF2.out.on hb3⟩
              clear hb3
              clear c0 c1 c2 c3 c4 c5 c6 c7 c8 c9 c10 d0 d1 e0 e1 e2 e3 e4
              obtain ⟨c0, c1, c2, c3, c4, c5, c6, c7, c8, c9, c10⟩ := HF3.out.1.cells0
              obtain ⟨d0, d1, e0, e1, e2, e3, e4⟩ := HF3.out.cells
              go_wp2_with fail
              go_ret
              exact ⟨rfl, HF3.out.2.2.2⟩
            | true =>
              simp only [Bool.true_or, Bool.or_true, Bool.false_or, Bool.true_and, Bool.and_true, Bool.and_false, Bool.false_and, Bool.or_false, Bool.not_true, Bool.not_false]
              go_enter Tryz.func10, Tryz.ntmps10
              go_wp2_with fail
              refine (HI.out _).mono ?_
              rintro e w1 ⟨rfl, hb1⟩
              obtain ⟨HF1⟩ : Nonempty (Hid (FB w w1 w.heap.size _ ta tn _)) := ⟨HF.out.on hb1⟩
              clear hb1
              obtain ⟨c0, c1, c2, c3, c4, c5, c6, c7, c8, c9, c10⟩ := HF1.out.1.cells0
              obtain ⟨d0, d1, e0, e1, e2, e3, e4⟩ := HF1.out.cells
              go_wp2_with fail
              refine (HT.out _ HF1.out.2.2.2).mono ?_
              rintro e w2 ⟨rfl, hb2⟩
              obtain ⟨HF2⟩ : Nonempty (Hid (FB w w2 w.heap.size _ ta tn _)) := ⟨HF1.out.on hb2⟩
              clear hb2
              clear c0 c1 c2 c3 c4 c5 c6 c7 c8 c9 c10 d0 d1 e0 e1 e2 e3 e4
              obtain ⟨c0, c1, c2, c3, c4, c5, c6, c7, c8, c9, c10⟩ := HF2.out.1.cells0
              obtain ⟨d0, d1, e0, e1, e2, e3, e4⟩ := HF2.out.cells
              go_wp2_with fail
              refine (HS.out _ HF2.out.2.2.2).mono ?_
              rintro e w3 ⟨rfl, hb3⟩
              obtain ⟨HF3⟩ : Nonempty (Hid (FB w w3 w.heap.size _ ta tn _)) := ⟨HF2.out.on hb3⟩
              clear hb3
              clear c0 c1 c2 c3 c4 c5 c6 c7 c8 c9 c10 d0 d1 e0 e1 e2 e3 e4
              obtain ⟨c0, c1, c2, c3, c4, c5, c6, c7, c8, c9, c10⟩ := HF3.out.1.cells0
              obtain ⟨d0, d1, e0, e1, e2, e3, e4⟩ := HF3.out.cells
              go_wp2_with fail
              go_ret
              exact ⟨rfl, HF3.out.2.2.2⟩
          | true =>
            have zs' : (sys == 0) = true := hzs.out
            have zs'' : (sys != 0) = false := by unfold bne; rw [zs']; rfl
            simp only [Bool.true_or, Bool.or_true, Bool.false_or, Bool.true_and, Bool.and_true, Bool.and_false, Bool.false_and, Bool.or_false, Bool.not_true, Bool.not_false]
            go_enter Tryz.func10, Tryz.ntmps10
            go_wp2_with fail
            refine (HI.out _).mono ?_
            rintro e w1 ⟨rfl, hb1⟩
            obtain ⟨HF1⟩ : Nonempty (Hid (FB w w1 w.heap.size _ ta tn _)) := ⟨HF.out.on hb1⟩
            clear hb1
            obtain ⟨c0, c1, c2, c3, c4, c5, c6, c7, c8, c9, c10⟩ := HF1.out.1.cells0
            obtain ⟨d0, d1, e0, e1, e2, e3, e4⟩ := HF1.out.cells
            go_wp2_with fail
            refine (HT.out _ HF1.out.2.2.2).mono ?_
            rintro e w2 ⟨rfl, hb2⟩
            obtain ⟨HF2⟩ : Nonempty (Hid (FB w w2 w.heap.size _ ta tn _)) := ⟨HF1.out.on hb2⟩
            clear hb2
            clear c0 c1 c2 c3 c4 c5 c6 c7 c8 c9 c10 d0 d1 e0 e1 e2 e3 e4
            obtain ⟨c0, c1, c2, c3, c4, c5, c6, c7, c8, c9, c10⟩ := HF2.out.1.cells0
            obtain ⟨d0, d1, e0, e1, e2, e3, e4⟩ := HF2.out.cells
            go_wp2_with fail
            refine (HS.out _ HF2.out.2.2.2).mono ?_
            rintro e w3 ⟨rfl, hb3⟩
            obtain ⟨HF3⟩ : Nonempty (Hid (FB w w3 w.heap.size _ ta tn _)) := ⟨HF2.out.on hb3⟩
            clear hb3
            clear c0 c1 c2 c3 c4 c5 c6 c7 c8 c9 c10 d0 d1 e0 e1 e2 e3 e4
            obtain ⟨c0, c1, c2, c3, c4, c5, c6, c7, c8, c9, c10⟩ := HF3.out.1.cells0
            obtain ⟨d0, d1, e0, e1, e2, e3, e4⟩ := HF3.out.cells
            go_wp2_with fail
            go_ret
            exact ⟨rfl, HF3.out.2.2.2⟩
      | true =>
        have b2' : decide (hi < tn) = true := hb2.out
        simp only [Bool.true_or, Bool.or_true, Bool.false_or, Bool.true_and, Bool.and_true, Bool.and_false, Bool.false_and, Bool.or_false, Bool.not_true, Bool.not_false]
        go_enter Tryz.func10, Tryz.ntmps10
        go_wp2_with fail
        refine (HI.out _).mono ?_
        rintro e w1 ⟨rfl, hb1⟩
        obtain ⟨HF1⟩ : Nonempty (Hid (FB w w1 w.heap.size _ ta tn _)) := ⟨HF.out.on hb1⟩
        clear hb1
        obtain ⟨c0, c1, c2, c3, c4, c5, c6, c7, c8, c9, c10⟩ := HF1.out.1.cells0
        obtain ⟨d0, d1, e0, e1, e2, e3, e4⟩ := HF1.out.cells
        go_wp2_with fail
        go_ret
        exact ⟨rfl, HF1.out.2.2.2⟩
    | true =>
      have b1' : decide (tn < lo) = true := hb1.out
      simp only [Bool.true_or, Bool.or_true, Bool.false_or, Bool.true_and, Bool.and_true, Bool.and_false, Bool.false_and, Bool.or_false, Bool.not_true, Bool.not_false]
      go_enter Tryz.func10, Tryz.ntmps10
      go_wp2_with fail
      refine (HI.out _).mono ?_
      rintro e w1 ⟨rfl, hb1⟩
      obtain ⟨HF1⟩ : Nonempty (Hid (FB w w1 w.heap.size _ ta tn _)) := ⟨HF.out.on hb1⟩
      clear hb1
      obtain ⟨c0, c1, c2, c3, c4, c5, c6, c7, c8, c9, c10⟩ := HF1.out.1.cells0
      obtain ⟨d0, d1, e0, e1, e2, e3, e4⟩ := HF1.out.cells
      go_wp2_with fail
      go_ret
      exact ⟨rfl, HF1.out.2.2.2⟩
end Go.Proofs.YtnifhaopjhgmnaaGreatDoor
