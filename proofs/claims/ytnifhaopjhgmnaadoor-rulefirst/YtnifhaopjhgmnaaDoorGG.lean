/-
  What package rule leans on; asksRight, changesRight, checkRule, Check: what they return.
  Package rule's checkRule and Check: what they return.
-/
import Derived.Test.YtnifhaopjhgmnaaDoorGD
import Derived.Test.YtnifhaopjhgmnaaDoorGE
import Derived.Test.YtnifhaopjhgmnaaDoorGF
namespace Go.Proofs.YtnifhaopjhgmnaaDoor
open Go.RowKit

structure RuleEnv (w : World) (E : Nat → Addr) (m : Int) : Prop where
  at1 : AttrEnv w E m
  shape : w.cell? ⟨2, 0, none⟩ = some (.iface 117 (.pointer (some (E 2))))
theorem RuleEnv.below {w w' : World} {E : Nat → Addr} {m : Int} (h : RuleEnv w E m) (hb : Below w.heap.size w w') : RuleEnv w' E m :=
  ⟨h.at1.below hb, cell_kept hb h.shape⟩
theorem RuleEnv.errs {w : World} {E : Nat → Addr} {m : Int} (h : RuleEnv w E m) : IpErrs w (E 0) (E 1) (E 2) := ⟨rfl, h.at1.bound, h.shape⟩
theorem errV_ev (E : Nat → Addr) (c : Nat) (h : c ≤ 3) : errV (E 0) (E 1) (E 2) c = ev E c := by
  match c, h with
  | 0, _ => rfl
  | 1, _ => rfl
  | 2, _ => rfl
  | 3, _ => rfl
theorem chkC_le (a n : Int) : chkC a n ≤ 3 := by
  unfold chkC
  split
  · split <;> omega
  · omega
theorem chk_ev (a n : Int) (E : Nat → Addr) : chk a n (E 1) (E 2) = ev E (chkC a n) := by
  rw [chk_errV a n (E 0), errV_ev E _ (chkC_le a n)]

/-- a rule's value. -/
def rlV (r : Rl) : Value := .agg #[.int .i64 r.wa, .int .i64 r.wn, .int .i64 r.lo, .int .i64 r.hi, .int .i64 r.tag, .int .i64 r.sys, .bool r.deny, .int .i64 r.pref, .int .i64 r.med, .int .i64 r.add, .int .i64 r.lead]
def asksB (r : Rl) : Bool := inB3 r.lo 0 r.hi && decide (r.hi ≤ 32) && inB3 r.tag 0 9999 && inB3 r.sys 0 1000
def changesB (r : Rl) : Bool := inB3 r.pref (-1) 1000 && inB3 r.med (-1) 1000 && inB3 r.add 0 9999 && inB3 r.lead 0 12
def chkR (r : Rl) : Nat := if 0 < chkC r.wa r.wn then chkC r.wa r.wn else if asksB r && changesB r then 0 else 2

set_option linter.unusedVariables false in
set_option maxRecDepth 100000 in
set_option maxHeartbeats 1000000 in
theorem asks_any (r : Rl) (w : World) : Calls Tryd.prog 31 #[rlV r] w fun e w' => e = .returned (.bool (asksB r)) ∧ Below w.heap.size w w' := by
  obtain ⟨wa, wn, lo, hi, tag, sys, deny, pref, med, add, lead⟩ := r
  unfold rlV asksB
  simp only
  cases h0 : inB3 lo 0 hi with
  | false =>
    obtain ⟨HW0⟩ : Nonempty (Hid (∀ w', Calls _ _ _ _ _)) := ⟨fun w' => within_any lo 0 hi w'⟩
    rw [h0] at HW0
    clear h0
    go_enter Tryd.func31, Tryd.ntmps31
    go_wp2_with fail
    refine (HW0.out _).mono ?_
    rintro e w' ⟨rfl, hw'⟩
    subst hw'
    go_wp2_with fail
    go_ret
    exact ⟨rfl, below_alloc _ _⟩
  | true =>
    obtain ⟨HW0⟩ : Nonempty (Hid (∀ w', Calls _ _ _ _ _)) := ⟨fun w' => within_any lo 0 hi w'⟩
    rw [h0] at HW0
    clear h0
    cases h1 : decide (hi ≤ 32) with
    | false =>
      go_enter Tryd.func31, Tryd.ntmps31
      go_wp2_with fail
      refine (HW0.out _).mono ?_
      rintro e w' ⟨rfl, hw'⟩
      subst hw'
      go_wp2_with fail
      go_ret
      exact ⟨rfl, below_alloc _ _⟩
    | true =>
      cases h2 : inB3 tag 0 9999 with
      | false =>
        obtain ⟨HW2⟩ : Nonempty (Hid (∀ w', Calls _ _ _ _ _)) := ⟨fun w' => within_any tag 0 9999 w'⟩
        rw [h2] at HW2
        clear h2
        go_enter Tryd.func31, Tryd.ntmps31
        go_wp2_with fail
        refine (HW0.out _).mono ?_
        rintro e w' ⟨rfl, hw'⟩
        subst hw'
        go_wp2_with fail
        refine (HW2.out _).mono ?_
        rintro e w' ⟨rfl, hw'⟩
        subst hw'
        go_wp2_with fail
        go_ret
        exact ⟨rfl, below_alloc _ _⟩
      | true =>
        obtain ⟨HW2⟩ : Nonempty (Hid (∀ w', Calls _ _ _ _ _)) := ⟨fun w' => within_any tag 0 9999 w'⟩
        rw [h2] at HW2
        clear h2
        cases h3 : inB3 sys 0 1000 with
        | false =>
          obtain ⟨HW3⟩ : Nonempty (Hid (∀ w', Calls _ _ _ _ _)) := ⟨fun w' => within_any sys 0 1000 w'⟩
          rw [h3] at HW3
          clear h3
          go_enter Tryd.func31, Tryd.ntmps31
          go_wp2_with fail
          refine (HW0.out _).mono ?_
          rintro e w' ⟨rfl, hw'⟩
          subst hw'
          go_wp2_with fail
          refine (HW2.out _).mono ?_
          rintro e w' ⟨rfl, hw'⟩
          subst hw'
          go_wp2_with fail
          refine (HW3.out _).mono ?_
          rintro e w' ⟨rfl, hw'⟩
          subst hw'
          go_wp2_with fail
          go_ret
          exact ⟨rfl, below_alloc _ _⟩
        | true =>
          obtain ⟨HW3⟩ : Nonempty (Hid (∀ w', Calls _ _ _ _ _)) := ⟨fun w' => within_any sys 0 1000 w'⟩
          rw [h3] at HW3
          clear h3
          go_enter Tryd.func31, Tryd.ntmps31
          go_wp2_with fail
          refine (HW0.out _).mono ?_
          rintro e w' ⟨rfl, hw'⟩
          subst hw'
          go_wp2_with fail
          refine (HW2.out _).mono ?_
          rintro e w' ⟨rfl, hw'⟩
          subst hw'
          go_wp2_with fail
          refine (HW3.out _).mono ?_
          rintro e w' ⟨rfl, hw'⟩
          subst hw'
          go_wp2_with fail
          go_ret
          exact ⟨rfl, below_alloc _ _⟩

set_option linter.unusedVariables false in
set_option maxRecDepth 100000 in
set_option maxHeartbeats 1000000 in
theorem changes_any (r : Rl) (w : World) : Calls Tryd.prog 32 #[rlV r] w fun e w' => e = .returned (.bool (changesB r)) ∧ Below w.heap.size w w' := by
  obtain ⟨wa, wn, lo, hi, tag, sys, deny, pref, med, add, lead⟩ := r
  unfold rlV changesB
  simp only
  cases h0 : inB3 pref (-1) 1000 with
  | false =>
    obtain ⟨HW0⟩ : Nonempty (Hid (∀ w', Calls _ _ _ _ _)) := ⟨fun w' => within_any pref (-1) 1000 w'⟩
    rw [h0] at HW0
    clear h0
    go_enter Tryd.func32, Tryd.ntmps32
    go_wp2_with fail
    refine (HW0.out _).mono ?_
    rintro e w' ⟨rfl, hw'⟩
    subst hw'
    go_wp2_with fail
    go_ret
    exact ⟨rfl, below_alloc _ _⟩
  | true =>
    obtain ⟨HW0⟩ : Nonempty (Hid (∀ w', Calls _ _ _ _ _)) := ⟨fun w' => within_any pref (-1) 1000 w'⟩
    rw [h0] at HW0
    clear h0
    cases h1 : inB3 med (-1) 1000 with
    | false =>
      obtain ⟨HW1⟩ : Nonempty (Hid (∀ w', Calls _ _ _ _ _)) := ⟨fun w' => within_any med (-1) 1000 w'⟩
      rw [h1] at HW1
      clear h1
      go_enter Tryd.func32, Tryd.ntmps32
      go_wp2_with fail
      refine (HW0.out _).mono ?_
      rintro e w' ⟨rfl, hw'⟩
      subst hw'
      go_wp2_with fail
      refine (HW1.out _).mono ?_
      rintro e w' ⟨rfl, hw'⟩
      subst hw'
      go_wp2_with fail
      go_ret
      exact ⟨rfl, below_alloc _ _⟩
    | true =>
      obtain ⟨HW1⟩ : Nonempty (Hid (∀ w', Calls _ _ _ _ _)) := ⟨fun w' => within_any med (-1) 1000 w'⟩
      rw [h1] at HW1
      clear h1
      cases h2 : inB3 add 0 9999 with
      | false =>
        obtain ⟨HW2⟩ : Nonempty (Hid (∀ w', Calls _ _ _ _ _)) := ⟨fun w' => within_any add 0 9999 w'⟩
        rw [h2] at HW2
        clear h2
        go_enter Tryd.func32, Tryd.ntmps32
        go_wp2_with fail
        refine (HW0.out _).mono ?_
        rintro e w' ⟨rfl, hw'⟩
        subst hw'
        go_wp2_with fail
        refine (HW1.out _).mono ?_
        rintro e w' ⟨rfl, hw'⟩
        subst hw'
        go_wp2_with fail
        refine (HW2.out _).mono ?_
        rintro e w' ⟨rfl, hw'⟩
        subst hw'
        go_wp2_with fail
        go_ret
        exact ⟨rfl, below_alloc _ _⟩
      | true =>
        obtain ⟨HW2⟩ : Nonempty (Hid (∀ w', Calls _ _ _ _ _)) := ⟨fun w' => within_any add 0 9999 w'⟩
        rw [h2] at HW2
        clear h2
        cases h3 : inB3 lead 0 12 with
        | false =>
          obtain ⟨HW3⟩ : Nonempty (Hid (∀ w', Calls _ _ _ _ _)) := ⟨fun w' => within_any lead 0 12 w'⟩
          rw [h3] at HW3
          clear h3
          go_enter Tryd.func32, Tryd.ntmps32
          go_wp2_with fail
          refine (HW0.out _).mono ?_
          rintro e w' ⟨rfl, hw'⟩
          subst hw'
          go_wp2_with fail
          refine (HW1.out _).mono ?_
          rintro e w' ⟨rfl, hw'⟩
          subst hw'
          go_wp2_with fail
          refine (HW2.out _).mono ?_
          rintro e w' ⟨rfl, hw'⟩
          subst hw'
          go_wp2_with fail
          refine (HW3.out _).mono ?_
          rintro e w' ⟨rfl, hw'⟩
          subst hw'
          go_wp2_with fail
          go_ret
          exact ⟨rfl, below_alloc _ _⟩
        | true =>
          obtain ⟨HW3⟩ : Nonempty (Hid (∀ w', Calls _ _ _ _ _)) := ⟨fun w' => within_any lead 0 12 w'⟩
          rw [h3] at HW3
          clear h3
          go_enter Tryd.func32, Tryd.ntmps32
          go_wp2_with fail
          refine (HW0.out _).mono ?_
          rintro e w' ⟨rfl, hw'⟩
          subst hw'
          go_wp2_with fail
          refine (HW1.out _).mono ?_
          rintro e w' ⟨rfl, hw'⟩
          subst hw'
          go_wp2_with fail
          refine (HW2.out _).mono ?_
          rintro e w' ⟨rfl, hw'⟩
          subst hw'
          go_wp2_with fail
          refine (HW3.out _).mono ?_
          rintro e w' ⟨rfl, hw'⟩
          subst hw'
          go_wp2_with fail
          go_ret
          exact ⟨rfl, below_alloc _ _⟩
end Go.Proofs.YtnifhaopjhgmnaaDoor

namespace Go.Proofs.YtnifhaopjhgmnaaDoor
open Go.RowKit

theorem rule_box (w : World) (r : Rl) : RuleAt (w.alloc (.cells #[.int .i64 r.wa, .int .i64 r.wn, .int .i64 r.lo, .int .i64 r.hi, .int .i64 r.tag, .int .i64 r.sys, .bool r.deny, .int .i64 r.pref, .int .i64 r.med, .int .i64 r.add, .int .i64 r.lead] 37)) w.heap.size 0 r := fun k v hk => by
  rw [World.cell?_alloc_at _ _ _ _ rfl, Nat.zero_add]
  simpa [encR] using hk
theorem rule_boxed (w : World) (r : Rl) : Below w.heap.size w (w.alloc (.cells #[.int .i64 r.wa, .int .i64 r.wn, .int .i64 r.lo, .int .i64 r.hi, .int .i64 r.tag, .int .i64 r.sys, .bool r.deny, .int .i64 r.pref, .int .i64 r.med, .int .i64 r.add, .int .i64 r.lead] 37)) ∧ RuleAt (w.alloc (.cells #[.int .i64 r.wa, .int .i64 r.wn, .int .i64 r.lo, .int .i64 r.hi, .int .i64 r.tag, .int .i64 r.sys, .bool r.deny, .int .i64 r.pref, .int .i64 r.med, .int .i64 r.add, .int .i64 r.lead] 37)) w.heap.size 0 r := ⟨below_alloc _ _, rule_box w r⟩
theorem RuleAt.cells0 {w : World} {b : Nat} {r : Rl} (h : RuleAt w b 0 r) : w.cell? ⟨b, 0, none⟩ = some (.int .i64 r.wa) ∧ w.cell? ⟨b, 1, none⟩ = some (.int .i64 r.wn) ∧ w.cell? ⟨b, 2, none⟩ = some (.int .i64 r.lo) ∧ w.cell? ⟨b, 3, none⟩ = some (.int .i64 r.hi) ∧ w.cell? ⟨b, 4, none⟩ = some (.int .i64 r.tag) ∧ w.cell? ⟨b, 5, none⟩ = some (.int .i64 r.sys)
    ∧ w.cell? ⟨b, 6, none⟩ = some (.bool r.deny) ∧ w.cell? ⟨b, 7, none⟩ = some (.int .i64 r.pref) ∧ w.cell? ⟨b, 8, none⟩ = some (.int .i64 r.med) ∧ w.cell? ⟨b, 9, none⟩ = some (.int .i64 r.add) ∧ w.cell? ⟨b, 10, none⟩ = some (.int .i64 r.lead) := by
  have := h.cells
  simpa only [Nat.zero_add] using this

set_option linter.unusedVariables false in
set_option maxRecDepth 100000 in
set_option maxHeartbeats 1000000 in
theorem checkRule_any (r : Rl) (E : Nat → Addr) (m : Int) (w : World) (hE : RuleEnv w E m) : Calls Tryd.prog 19 #[rlV r] w fun e w' => e = .returned (ev E (chkR r)) ∧ Below w.heap.size w w' := by
  have eb := hE.at1.bound
  have lb := cell_lt' eb
  obtain ⟨HK⟩ : Nonempty (Hid (∀ w', Below w.heap.size w w' → Calls Tryd.prog 25 #[.agg #[.int .i64 r.wa, .int .i64 r.wn]] w' fun e w'' => e = .returned (ev E (chkC r.wa r.wn)) ∧ Below w'.heap.size w' w'')) := ⟨fun w' hb => by
    have := check_any r.wa r.wn (E 0) (E 1) (E 2) w' (hE.below hb).errs
    rw [chk_ev] at this
    exact this⟩
  obtain ⟨HA⟩ : Nonempty (Hid (∀ w', Calls _ _ _ _ _)) := ⟨fun w' => asks_any r w'⟩
  obtain ⟨HG⟩ : Nonempty (Hid (∀ w', Calls _ _ _ _ _)) := ⟨fun w' => changes_any r w'⟩
  obtain ⟨ck, hck⟩ : ∃ c, Hid (chkC r.wa r.wn = c) := ⟨_, show _ = _ from rfl⟩
  obtain ⟨HE⟩ : Nonempty (Hid (chkR r = if 0 < ck then ck else if asksB r && changesB r then 0 else 2)) := ⟨by show _ = _; rw [← hck.out]; rfl⟩
  rw [show chkC r.wa r.wn = ck from hck.out] at HK
  rw [HE.out]
  obtain ⟨HB⟩ : Nonempty (Hid (Below w.heap.size w _ ∧ RuleAt _ w.heap.size 0 r)) := ⟨rule_boxed w r⟩
  unfold rlV at HA HG ⊢
  clear hE hck HE
  cases ck with
  | succ c =>
    rw [if_pos (by omega)]
    obtain ⟨u, hu⟩ : ∃ u, Hid (E c = u) := ⟨_, show _ = _ from rfl⟩
    simp only [ev] at HK ⊢
    rw [show E c = u from hu.out] at HK ⊢
    go_enter Tryd.func19, Tryd.ntmps19
    go_wp2_with fail
    refine (HK.out _ HB.out.1).mono ?_
    rintro e w1 ⟨rfl, hb1⟩
    obtain ⟨HB1⟩ : Nonempty (Hid (Below w.heap.size w w1)) := ⟨HB.out.1.trans (hb1.mono HB.out.1.size)⟩
    clear hb1
    go_wp2_with fail
    go_ret
    exact ⟨rfl, HB1.out⟩
  | zero =>
    rw [if_neg (by omega)]
    simp only [ev] at HK
    cases ha : asksB r with
    | false =>
      rw [ha] at HA
      simp only [Bool.false_and, Bool.false_eq_true, if_false, ev]
      clear ha
      go_enter Tryd.func19, Tryd.ntmps19
      go_wp2_with fail
      refine (HK.out _ HB.out.1).mono ?_
      rintro e w1 ⟨rfl, hb1⟩
      obtain ⟨HB1⟩ : Nonempty (Hid (Below w.heap.size w w1 ∧ RuleAt w1 w.heap.size 0 r)) := ⟨⟨HB.out.1.trans (hb1.mono HB.out.1.size), HB.out.2.below hb1⟩⟩
      obtain ⟨c0, c1, c2, c3, c4, c5, c6, c7, c8, c9, c10⟩ := HB1.out.2.cells0
      clear hb1
      go_wp2_with fail
      refine (HA.out _).mono ?_
      rintro e w2 ⟨rfl, hb2⟩
      obtain ⟨HB2⟩ : Nonempty (Hid (Below w.heap.size w w2)) := ⟨HB1.out.1.trans (hb2.mono HB1.out.1.size)⟩
      have eb2 : w2.cell? ⟨1, 0, none⟩ = _ := cell_kept HB2.out eb
      clear hb2 c0 c1 c2 c3 c4 c5 c6 c7 c8 c9 c10
      go_wp2_with fail
      go_ret
      exact ⟨rfl, HB2.out⟩
    | true =>
    cases hg : changesB r with
    | false =>
      rw [ha] at HA
      rw [hg] at HG
      simp only [Bool.and_false, Bool.false_eq_true, if_false, ev]
      clear ha hg
      go_enter Tryd.func19, Tryd.ntmps19
      go_wp2_with fail
      refine (HK.out _ HB.out.1).mono ?_
      rintro e w1 ⟨rfl, hb1⟩
      obtain ⟨HB1⟩ : Nonempty (Hid (Below w.heap.size w w1 ∧ RuleAt w1 w.heap.size 0 r)) := ⟨⟨HB.out.1.trans (hb1.mono HB.out.1.size), HB.out.2.below hb1⟩⟩
      obtain ⟨c0, c1, c2, c3, c4, c5, c6, c7, c8, c9, c10⟩ := HB1.out.2.cells0
      clear hb1
      go_wp2_with fail
      refine (HA.out _).mono ?_
      rintro e w2 ⟨rfl, hb2⟩
      obtain ⟨HB2⟩ : Nonempty (Hid (Below w.heap.size w w2 ∧ RuleAt w2 w.heap.size 0 r)) := ⟨⟨HB1.out.1.trans (hb2.mono HB1.out.1.size), HB1.out.2.below hb2⟩⟩
      clear hb2 c0 c1 c2 c3 c4 c5 c6 c7 c8 c9 c10
      obtain ⟨c0, c1, c2, c3, c4, c5, c6, c7, c8, c9, c10⟩ := HB2.out.2.cells0
      go_wp2_with fail
      refine (HG.out _).mono ?_
      rintro e w3 ⟨rfl, hb3⟩
      obtain ⟨HB3⟩ : Nonempty (Hid (Below w.heap.size w w3)) := ⟨HB2.out.1.trans (hb3.mono HB2.out.1.size)⟩
      have eb2 : w3.cell? ⟨1, 0, none⟩ = _ := cell_kept HB3.out eb
      clear hb3 c0 c1 c2 c3 c4 c5 c6 c7 c8 c9 c10
      go_wp2_with fail
      go_ret
      exact ⟨rfl, HB3.out⟩
    | true =>
      rw [ha] at HA
      rw [hg] at HG
      simp only [Bool.and_true, if_true, ev]
      clear ha hg
      go_enter Tryd.func19, Tryd.ntmps19
      go_wp2_with fail
      refine (HK.out _ HB.out.1).mono ?_
      rintro e w1 ⟨rfl, hb1⟩
      obtain ⟨HB1⟩ : Nonempty (Hid (Below w.heap.size w w1 ∧ RuleAt w1 w.heap.size 0 r)) := ⟨⟨HB.out.1.trans (hb1.mono HB.out.1.size), HB.out.2.below hb1⟩⟩
      obtain ⟨c0, c1, c2, c3, c4, c5, c6, c7, c8, c9, c10⟩ := HB1.out.2.cells0
      clear hb1
      go_wp2_with fail
      refine (HA.out _).mono ?_
      rintro e w2 ⟨rfl, hb2⟩
      obtain ⟨HB2⟩ : Nonempty (Hid (Below w.heap.size w w2 ∧ RuleAt w2 w.heap.size 0 r)) := ⟨⟨HB1.out.1.trans (hb2.mono HB1.out.1.size), HB1.out.2.below hb2⟩⟩
      clear hb2 c0 c1 c2 c3 c4 c5 c6 c7 c8 c9 c10
      obtain ⟨c0, c1, c2, c3, c4, c5, c6, c7, c8, c9, c10⟩ := HB2.out.2.cells0
      go_wp2_with fail
      refine (HG.out _).mono ?_
      rintro e w3 ⟨rfl, hb3⟩
      obtain ⟨HB3⟩ : Nonempty (Hid (Below w.heap.size w w3)) := ⟨HB2.out.1.trans (hb3.mono HB2.out.1.size)⟩
      clear hb3 c0 c1 c2 c3 c4 c5 c6 c7 c8 c9 c10
      go_wp2_with fail
      go_ret
      exact ⟨rfl, HB3.out⟩

def ruleN (L : List Rl) (k : Nat) : Rl := L.getD k rl0
theorem ruleN_at (L : List Rl) (k : Nat) (h : k < L.length) : ruleN L k = L[k] := by unfold ruleN; simp [List.getD, h]
def qR (L : List Rl) (k : Nat) : Nat := chkR (ruleN L k)
/-- what is wrong with rules: a number, a place. -/
def rulesC (L : List Rl) : Nat × Int := if 10 < L.length then (7, -1) else firstQ (qR L) L.length
theorem enters_rules : ∀ args w, (callFunc 18 args).run Tryd.prog w = .ok (.enter 18 args) w := fun args w => by kernel_rfl
set_option linter.unusedVariables false in
set_option maxRecDepth 100000 in
set_option maxHeartbeats 1000000 in
theorem ask_rules (p : Option Addr) (L : List Rl) (cp B : Nat) (E : Nat → Addr) (m : Int) (w : World) (hE : RuleEnv w E m) (h : Rules w p L) (hc : w.cell? ⟨B, 0, none⟩ = some (.slice p L.length cp)) (hl : L.length ≤ 1000000) :
    Asked 18 (.pointer (some ⟨B, 0, none⟩)) E L.length (qR L) w := by
  refine ⟨enters_rules, fun k W hk hb => ?_⟩
  have c0 := cell_kept hb hc
  obtain ⟨b, o, rfl, x0⟩ := h k hk
  obtain ⟨d0, d1, d2, d3, d4, d5, d6, d7, d8, d9, d10⟩ := (x0.below hb).cells
  have q3 : (k : Int) < L.length := by omega
  obtain ⟨HC⟩ : Nonempty (Hid (Calls _ _ _ _ _)) := ⟨checkRule_any L[k] E m W (hE.below hb)⟩
  obtain ⟨c, hcc⟩ : ∃ c, Hid (ev E (chkR L[k]) = c) := ⟨_, show _ = _ from rfl⟩
  have eq : qR L k = chkR L[k] := by unfold qR; rw [ruleN_at L k hk]
  rw [eq]
  rw [show ev E (chkR L[k]) = c from hcc.out] at HC ⊢
  unfold rlV at HC
  obtain ⟨r, hr⟩ : ∃ r, Hid (L[k] = r) := ⟨_, show _ = _ from rfl⟩
  rw [show L[k] = r from hr.out] at HC d0 d1 d2 d3 d4 d5 d6 d7 d8 d9 d10
  clear x0 hE h hc hb eq hcc hr
  go_enter Tryd.func18, Tryd.ntmps18
  go_wp2_with fail
  refine HC.out.mono ?_
  rintro e w1 ⟨rfl, hb1⟩
  obtain ⟨HB1⟩ : Nonempty (Hid (Below W.heap.size W w1)) := ⟨hb1⟩
  clear hb1
  go_wp2_with fail
  go_ret
  exact ⟨rfl, HB1.out⟩
set_option linter.unusedVariables false in
set_option maxRecDepth 100000 in
set_option maxHeartbeats 1000000 in
theorem rCheck_any (p : Option Addr) (L : List Rl) (cp : Nat) (E : Nat → Addr) (m : Int) (w : World) (hE : RuleEnv w E m) (h : Rules w p L) (hl : L.length ≤ 1000000) :
    Calls Tryd.prog 7 #[.slice p L.length cp] w fun r w' => (∃ v, r = .returned v ∧ IsErr w' E v (rulesC L).1 (rulesC L).2) ∧ Below w.heap.size w w' := by
  have hb := below_alloc w (.cells #[.slice p L.length cp] 22)
  by_cases hn : 10 < L.length
  · have hn' : decide (10 < (L.length : Int)) = true := decide_eq_true (by omega)
    have e0 : rulesC L = (7, -1) := by unfold rulesC; rw [if_pos hn]
    rw [e0]
    have ef := hE.at1.full
    have lf := cell_lt' ef
    clear hE h e0 hn
    go_enter Tryd.func7, Tryd.ntmps7
    go_wp2_with fail
    go_ret
    exact ⟨⟨_, rfl, .inl ⟨rfl, rfl⟩⟩, hb⟩
  · have hn' : decide (10 < (L.length : Int)) = false := decide_eq_false (by omega)
    have e0 : rulesC L = firstQ (qR L) L.length := by unfold rulesC; rw [if_neg hn]
    rw [e0]
    obtain ⟨HC⟩ : Nonempty (Hid (Calls _ _ _ _ _)) := ⟨firstAsk_any L.length _ _ E m (qR L) (w.alloc (.cells #[.slice p L.length cp] 22)) (hE.at1.below hb) (ask_rules p L cp w.heap.size E m _ (hE.below hb) (h.below hb) (box_one _ _ _) hl) hl⟩
    obtain ⟨HB⟩ : Nonempty (Hid (Below _ _ _)) := ⟨hb⟩
    obtain ⟨c, hc⟩ : ∃ c, Hid ((firstQ (qR L) L.length).1 = c) := ⟨_, show _ = _ from rfl⟩
    obtain ⟨d, hd⟩ : ∃ c, Hid ((firstQ (qR L) L.length).2 = c) := ⟨_, show _ = _ from rfl⟩
    rw [show (firstQ (qR L) L.length).1 = c from hc.out, show (firstQ (qR L) L.length).2 = d from hd.out] at HC ⊢
    clear hb hE h e0 hn
    go_enter Tryd.func7, Tryd.ntmps7
    go_wp2_with fail
    refine HC.out.mono ?_
    rintro e w1 ⟨⟨v, rfl, hv⟩, hb1⟩
    obtain ⟨HV⟩ : Nonempty (Hid (IsErr w1 E v c d ∧ Below w.heap.size w w1)) := ⟨⟨hv, HB.out.trans (hb1.mono HB.out.size)⟩⟩
    clear hv hb1
    go_wp2_with fail
    go_ret
    exact ⟨⟨v, rfl, HV.out.1⟩, HV.out.2⟩
end Go.Proofs.YtnifhaopjhgmnaaDoor
