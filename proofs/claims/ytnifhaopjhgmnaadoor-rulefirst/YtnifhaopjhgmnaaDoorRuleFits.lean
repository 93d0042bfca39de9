/-
  Package rule's Fits: what it returns.
-/
import Derived.Test.YtnifhaopjhgmnaaDoorGG
import Derived.Test.YtnifhaopjhgmnaaDoorGH
namespace Go.Proofs.YtnifhaopjhgmnaaDoor
open Go.RowKit

def tagB (r : Rl) (A : At) : Bool := (r.tag == 0) || A.tags.contains r.tag
def sysB (r : Rl) (A : At) : Bool := (r.sys == 0) || A.path.contains r.sys
/-- does a rule fit? -/
def fitsB (r : Rl) (ta tn : Int) (A : At) : Bool := inB ta tn r.wa r.wn && inB3 tn r.lo r.hi && tagB r A && sysB r A
/-- three boxes: a rule's, a prefix's, an attribute's. -/
def FB (w wr : World) (B : Nat) (r : Rl) (ta tn : Int) (va : Array Value) : Prop :=
  RuleAt wr B 0 r ∧ wr.heap[B + 1]? = some (.cells #[.int .i64 ta, .int .i64 tn] 24 (0, 0)) ∧ wr.heap[B + 2]? = some (.cells va 27 (0, 0)) ∧ Below B w wr
theorem FB.on {w wr w' : World} {B : Nat} {r : Rl} {ta tn : Int} {va : Array Value} (h : FB w wr B r ta tn va) (hb : Below wr.heap.size wr w') : FB w w' B r ta tn va := by
  obtain ⟨a, b, c, d⟩ := h
  have l1 := (Array.getElem?_eq_some_iff.1 b).1
  have l2 := (Array.getElem?_eq_some_iff.1 c).1
  exact ⟨a.below hb, by rw [hb.block _ l1]; exact b, by rw [hb.block _ l2]; exact c, d.trans (hb.mono (by omega))⟩
theorem fb_start (w : World) (r : Rl) (ta tn : Int) (va : Array Value) : FB w (((w.alloc (.cells #[.int .i64 r.wa, .int .i64 r.wn, .int .i64 r.lo, .int .i64 r.hi, .int .i64 r.tag, .int .i64 r.sys, .bool r.deny, .int .i64 r.pref, .int .i64 r.med, .int .i64 r.add, .int .i64 r.lead] 37)).alloc (.cells #[.int .i64 ta, .int .i64 tn] 24)).alloc (.cells va 27)) w.heap.size r ta tn va := by
  obtain ⟨w0, hw0⟩ : ∃ w0, (w.alloc (.cells #[.int .i64 r.wa, .int .i64 r.wn, .int .i64 r.lo, .int .i64 r.hi, .int .i64 r.tag, .int .i64 r.sys, .bool r.deny, .int .i64 r.pref, .int .i64 r.med, .int .i64 r.add, .int .i64 r.lead] 37)) = w0 := ⟨_, rfl⟩
  have h0 := rule_boxed w r
  have hs : w0.heap.size = w.heap.size + 1 := by rw [← hw0]; simp
  rw [hw0] at h0 ⊢
  obtain ⟨w1, hw1⟩ : ∃ w1, w0.alloc (.cells #[.int .i64 ta, .int .i64 tn] 24) = w1 := ⟨_, rfl⟩
  have h1 := Go.heap_alloc_new w0 (.cells #[.int .i64 ta, .int .i64 tn] 24)
  have b1 := below_alloc w0 (.cells #[.int .i64 ta, .int .i64 tn] 24)
  have hs1 : w1.heap.size = w.heap.size + 2 := by rw [← hw1]; simp; omega
  rw [hw1, hs] at h1
  rw [hw1] at b1 ⊢
  have h2 := Go.heap_alloc_new w1 (.cells va 27)
  have b2 := below_alloc w1 (.cells va 27)
  rw [hs1] at h2
  exact ⟨(h0.2.below b1).below b2, by rw [b2.block _ (by omega)]; exact h1, h2, (h0.1.trans (b1.mono (by omega))).trans (b2.mono (by omega))⟩
theorem FB.cells {w wr : World} {B : Nat} {r : Rl} {ta tn : Int} {a b c d e : Value} (h : FB w wr B r ta tn #[a, b, c, d, e]) : wr.cell? ⟨B + 1, 0, none⟩ = some (.int .i64 ta) ∧ wr.cell? ⟨B + 1, 1, none⟩ = some (.int .i64 tn) ∧ wr.cell? ⟨B + 2, 0, none⟩ = some a ∧ wr.cell? ⟨B + 2, 1, none⟩ = some b ∧ wr.cell? ⟨B + 2, 2, none⟩ = some c ∧ wr.cell? ⟨B + 2, 3, none⟩ = some d ∧ wr.cell? ⟨B + 2, 4, none⟩ = some e := by
  obtain ⟨-, h1, h2, -⟩ := h
  refine ⟨?_, ?_, ?_, ?_, ?_, ?_, ?_⟩ <;> simp [World.cell?, h1, h2]

set_option linter.unusedSimpArgs false in
set_option linter.unusedVariables false in
set_option maxRecDepth 100000 in
set_option maxHeartbeats 4000000 in
theorem fits_any (r : Rl) (ta tn : Int) (v : Value) (A : At) (E : Nat → Addr) (m : Int) (w : World) (hE : RuleEnv w E m) (h : IsAttr w v A) (h1 : A.path.length ≤ 1000000) (h2 : A.tags.length ≤ 1000000) :
    Calls Tryd.prog 8 #[rlV r, .agg #[.int .i64 ta, .int .i64 tn], v] w fun e w' => e = .returned (.bool (fitsB r ta tn A)) ∧ Below w.heap.size w w' := by
  obtain ⟨p, cp, q, cq, rfl, i1, i2⟩ := h
  obtain ⟨HI⟩ : Nonempty (Hid (∀ w', Below w.heap.size w w' → Calls _ _ _ _ _)) := ⟨fun w' hb => in_any ta tn r.wa r.wn (E 0) (E 1) (E 2) w' (hE.below hb).errs⟩
  obtain ⟨HW⟩ : Nonempty (Hid (∀ w', Calls _ _ _ _ _)) := ⟨fun w' => within_any tn r.lo r.hi w'⟩
  obtain ⟨HT⟩ : Nonempty (Hid (∀ w', Below w.heap.size w w' → Calls _ _ _ _ _)) := ⟨fun w' hb => contains_any q A.tags cq r.tag w' (i2.below hb) h2⟩
  obtain ⟨HS⟩ : Nonempty (Hid (∀ w', Below w.heap.size w w' → Calls _ _ _ _ _)) := ⟨fun w' hb => through_any (.agg #[.slice p A.path.length cp, .int .i64 A.pref, .int .i64 A.med, .int .i64 A.org, .slice q A.tags.length cq]) A r.sys w' ⟨p, cp, q, cq, rfl, i1.below hb, i2.below hb⟩ h1⟩
  obtain ⟨HF⟩ : Nonempty (Hid (FB w _ w.heap.size r ta tn #[.slice p A.path.length cp, .int .i64 A.pref, .int .i64 A.med, .int .i64 A.org, .slice q A.tags.length cq])) := ⟨fb_start w r ta tn _⟩
  obtain ⟨bi, hbi⟩ : ∃ b, Hid (inB ta tn r.wa r.wn = b) := ⟨_, show _ = _ from rfl⟩
  obtain ⟨bw, hbw⟩ : ∃ b, Hid (inB3 tn r.lo r.hi = b) := ⟨_, show _ = _ from rfl⟩
  obtain ⟨bt, hbt⟩ : ∃ b, Hid (A.tags.contains r.tag = b) := ⟨_, show _ = _ from rfl⟩
  obtain ⟨bs, hbs⟩ : ∃ b, Hid (A.path.contains r.sys = b) := ⟨_, show _ = _ from rfl⟩
  obtain ⟨zt, hzt⟩ : ∃ b, Hid ((r.tag == 0) = b) := ⟨_, show _ = _ from rfl⟩
  obtain ⟨zs, hzs⟩ : ∃ b, Hid ((r.sys == 0) = b) := ⟨_, show _ = _ from rfl⟩
  have HX : Hid (fitsB r ta tn A = (bi && bw && (zt || bt) && (zs || bs))) := by
    show _ = _
    unfold fitsB tagB sysB
    rw [hbi.out, hbw.out, hbt.out, hbs.out, hzt.out, hzs.out]
  rw [HX.out]
  rw [hbw.out] at HW
  simp only [show inB ta tn r.wa r.wn = bi from hbi.out] at HI
  simp only [show A.tags.contains r.tag = bt from hbt.out] at HT
  simp only [show A.path.contains r.sys = bs from hbs.out] at HS
  unfold rlV
  obtain ⟨wa, wn, lo, hi, tag, sys, deny, pref, med, add, lead⟩ := r
  obtain ⟨P, f0, n, o, T⟩ := A
  simp only at *
  clear hE i1 i2 h1 h2 hbi hbw hbt hbs HX
  cases bi with
  | false =>
    simp only [Bool.false_and]
    go_enter Tryd.func8, Tryd.ntmps8
    go_wp2_with fail
    refine (HI.out _ HF.out.2.2.2).mono ?_
    rintro e w1 ⟨rfl, hb1⟩
    obtain ⟨HF1⟩ : Nonempty (Hid (FB w w1 w.heap.size _ ta tn _)) := ⟨HF.out.on hb1⟩
    clear hb1
    obtain ⟨c0, c1, c2, c3, c4, c5, c6, c7, c8, c9, c10⟩ := HF1.out.1.cells0
    obtain ⟨d0, d1, e0, e1, e2, e3, e4⟩ := HF1.out.cells
    go_wp2_with fail
    go_ret
    exact ⟨rfl, HF1.out.2.2.2⟩
  | true =>
    cases bw with
    | false =>
      simp only [Bool.and_false, Bool.false_and]
      go_enter Tryd.func8, Tryd.ntmps8
      go_wp2_with fail
      refine (HI.out _ HF.out.2.2.2).mono ?_
      rintro e w1 ⟨rfl, hb1⟩
      obtain ⟨HF1⟩ : Nonempty (Hid (FB w w1 w.heap.size _ ta tn _)) := ⟨HF.out.on hb1⟩
      clear hb1
      obtain ⟨c0, c1, c2, c3, c4, c5, c6, c7, c8, c9, c10⟩ := HF1.out.1.cells0
      obtain ⟨d0, d1, e0, e1, e2, e3, e4⟩ := HF1.out.cells
      go_wp2_with fail
      refine (HW.out _).mono ?_
      rintro e w2 ⟨rfl, rfl⟩
      go_wp2_with fail
      go_ret
      exact ⟨rfl, HF1.out.2.2.2⟩
    | true =>
      cases zt with
      | false =>
        have zt' : (tag == 0) = false := hzt.out
        cases bt with
        | false =>
          simp only [Bool.or_false, Bool.and_false, Bool.false_and]
          go_enter Tryd.func8, Tryd.ntmps8
          go_wp2_with fail
          refine (HI.out _ HF.out.2.2.2).mono ?_
          rintro e w1 ⟨rfl, hb1⟩
          obtain ⟨HF1⟩ : Nonempty (Hid (FB w w1 w.heap.size _ ta tn _)) := ⟨HF.out.on hb1⟩
          clear hb1
          obtain ⟨c0, c1, c2, c3, c4, c5, c6, c7, c8, c9, c10⟩ := HF1.out.1.cells0
          obtain ⟨d0, d1, e0, e1, e2, e3, e4⟩ := HF1.out.cells
          go_wp2_with fail
          refine (HW.out _).mono ?_
          rintro e w2 ⟨rfl, rfl⟩
          go_wp2_with fail
          refine (HT.out _ HF1.out.2.2.2).mono ?_
          rintro e w3 ⟨rfl, rfl⟩
          go_wp2_with fail
          go_ret
          exact ⟨rfl, HF1.out.2.2.2⟩
        | true =>
          cases zs with
          | false =>
            have zs' : (sys == 0) = false := hzs.out
            cases bs with
            | false =>
              simp only [Bool.true_or, Bool.or_true, Bool.false_or, Bool.true_and, Bool.and_true, Bool.and_false, Bool.or_false]
              go_enter Tryd.func8, Tryd.ntmps8
              go_wp2_with fail
              refine (HI.out _ HF.out.2.2.2).mono ?_
              rintro e w1 ⟨rfl, hb1⟩
              obtain ⟨HF1⟩ : Nonempty (Hid (FB w w1 w.heap.size _ ta tn _)) := ⟨HF.out.on hb1⟩
              clear hb1
              obtain ⟨c0, c1, c2, c3, c4, c5, c6, c7, c8, c9, c10⟩ := HF1.out.1.cells0
              obtain ⟨d0, d1, e0, e1, e2, e3, e4⟩ := HF1.out.cells
              go_wp2_with fail
              refine (HW.out _).mono ?_
              rintro e w2 ⟨rfl, rfl⟩
              go_wp2_with fail
              refine (HT.out _ HF1.out.2.2.2).mono ?_
              rintro e w3 ⟨rfl, rfl⟩
              go_wp2_with fail
              refine (HS.out _ HF1.out.2.2.2).mono ?_
              rintro e w4 ⟨rfl, hb4⟩
              obtain ⟨HF4⟩ : Nonempty (Hid (FB w w4 w.heap.size _ ta tn _)) := ⟨HF1.out.on hb4⟩
              clear hb4
              go_wp2_with fail
              go_ret
              exact ⟨rfl, HF4.out.2.2.2⟩
            | true =>
              simp only [Bool.true_or, Bool.or_true, Bool.false_or, Bool.true_and, Bool.and_true, Bool.and_false, Bool.or_false]
              go_enter Tryd.func8, Tryd.ntmps8
              go_wp2_with fail
              refine (HI.out _ HF.out.2.2.2).mono ?_
              rintro e w1 ⟨rfl, hb1⟩
              obtain ⟨HF1⟩ : Nonempty (Hid (FB w w1 w.heap.size _ ta tn _)) := ⟨HF.out.on hb1⟩
              clear hb1
              obtain ⟨c0, c1, c2, c3, c4, c5, c6, c7, c8, c9, c10⟩ := HF1.out.1.cells0
              obtain ⟨d0, d1, e0, e1, e2, e3, e4⟩ := HF1.out.cells
              go_wp2_with fail
              refine (HW.out _).mono ?_
              rintro e w2 ⟨rfl, rfl⟩
              go_wp2_with fail
              refine (HT.out _ HF1.out.2.2.2).mono ?_
              rintro e w3 ⟨rfl, rfl⟩
              go_wp2_with fail
              refine (HS.out _ HF1.out.2.2.2).mono ?_
              rintro e w4 ⟨rfl, hb4⟩
              obtain ⟨HF4⟩ : Nonempty (Hid (FB w w4 w.heap.size _ ta tn _)) := ⟨HF1.out.on hb4⟩
              clear hb4
              go_wp2_with fail
              go_ret
              exact ⟨rfl, HF4.out.2.2.2⟩
          | true =>
            have zs' : (sys == 0) = true := hzs.out
            simp only [Bool.true_or, Bool.or_true, Bool.true_and, Bool.and_true]
            go_enter Tryd.func8, Tryd.ntmps8
            go_wp2_with fail
            refine (HI.out _ HF.out.2.2.2).mono ?_
            rintro e w1 ⟨rfl, hb1⟩
            obtain ⟨HF1⟩ : Nonempty (Hid (FB w w1 w.heap.size _ ta tn _)) := ⟨HF.out.on hb1⟩
            clear hb1
            obtain ⟨c0, c1, c2, c3, c4, c5, c6, c7, c8, c9, c10⟩ := HF1.out.1.cells0
            obtain ⟨d0, d1, e0, e1, e2, e3, e4⟩ := HF1.out.cells
            go_wp2_with fail
            refine (HW.out _).mono ?_
            rintro e w2 ⟨rfl, rfl⟩
            go_wp2_with fail
            refine (HT.out _ HF1.out.2.2.2).mono ?_
            rintro e w3 ⟨rfl, rfl⟩
            go_wp2_with fail
            go_ret
            exact ⟨rfl, HF1.out.2.2.2⟩
      | true =>
        have zt' : (tag == 0) = true := hzt.out
        cases zs with
        | false =>
          have zs' : (sys == 0) = false := hzs.out
          cases bs with
          | false =>
            simp only [Bool.true_or, Bool.or_true, Bool.false_or, Bool.true_and, Bool.and_true, Bool.and_false, Bool.or_false]
            go_enter Tryd.func8, Tryd.ntmps8
            go_wp2_with fail
            refine (HI.out _ HF.out.2.2.2).mono ?_
            rintro e w1 ⟨rfl, hb1⟩
            obtain ⟨HF1⟩ : Nonempty (Hid (FB w w1 w.heap.size _ ta tn _)) := ⟨HF.out.on hb1⟩
            clear hb1
            obtain ⟨c0, c1, c2, c3, c4, c5, c6, c7, c8, c9, c10⟩ := HF1.out.1.cells0
            obtain ⟨d0, d1, e0, e1, e2, e3, e4⟩ := HF1.out.cells
            go_wp2_with fail
            refine (HW.out _).mono ?_
            rintro e w2 ⟨rfl, rfl⟩
            go_wp2_with fail
            refine (HS.out _ HF1.out.2.2.2).mono ?_
            rintro e w4 ⟨rfl, hb4⟩
            obtain ⟨HF4⟩ : Nonempty (Hid (FB w w4 w.heap.size _ ta tn _)) := ⟨HF1.out.on hb4⟩
            clear hb4
            go_wp2_with fail
            go_ret
            exact ⟨rfl, HF4.out.2.2.2⟩
          | true =>
            simp only [Bool.true_or, Bool.or_true, Bool.false_or, Bool.true_and, Bool.and_true, Bool.and_false, Bool.or_false]
            go_enter Tryd.func8, Tryd.ntmps8
            go_wp2_with fail
            refine (HI.out _ HF.out.2.2.2).mono ?_
            rintro e w1 ⟨rfl, hb1⟩
            obtain ⟨HF1⟩ : Nonempty (Hid (FB w w1 w.heap.size _ ta tn _)) := ⟨HF.out.on hb1⟩
            clear hb1
            obtain ⟨c0, c1, c2, c3, c4, c5, c6, c7, c8, c9, c10⟩ := HF1.out.1.cells0
            obtain ⟨d0, d1, e0, e1, e2, e3, e4⟩ := HF1.out.cells
            go_wp2_with fail
            refine (HW.out _).mono ?_
            rintro e w2 ⟨rfl, rfl⟩
            go_wp2_with fail
            refine (HS.out _ HF1.out.2.2.2).mono ?_
            rintro e w4 ⟨rfl, hb4⟩
            obtain ⟨HF4⟩ : Nonempty (Hid (FB w w4 w.heap.size _ ta tn _)) := ⟨HF1.out.on hb4⟩
            clear hb4
            go_wp2_with fail
            go_ret
            exact ⟨rfl, HF4.out.2.2.2⟩
        | true =>
          have zs' : (sys == 0) = true := hzs.out
          simp only [Bool.true_or, Bool.or_true, Bool.true_and, Bool.and_true]
          go_enter Tryd.func8, Tryd.ntmps8
          go_wp2_with fail
          refine (HI.out _ HF.out.2.2.2).mono ?_
          rintro e w1 ⟨rfl, hb1⟩
          obtain ⟨HF1⟩ : Nonempty (Hid (FB w w1 w.heap.size _ ta tn _)) := ⟨HF.out.on hb1⟩
          clear hb1
          obtain ⟨c0, c1, c2, c3, c4, c5, c6, c7, c8, c9, c10⟩ := HF1.out.1.cells0
          obtain ⟨d0, d1, e0, e1, e2, e3, e4⟩ := HF1.out.cells
          go_wp2_with fail
          refine (HW.out _).mono ?_
          rintro e w2 ⟨rfl, rfl⟩
          go_wp2_with fail
          go_ret
          exact ⟨rfl, HF1.out.2.2.2⟩
end Go.Proofs.YtnifhaopjhgmnaaDoor
