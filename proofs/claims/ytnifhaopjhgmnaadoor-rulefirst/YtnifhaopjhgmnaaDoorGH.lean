/-
  The document's LeadOf: a path led by a system.
  slices.Equal, slices.Contains and slices.Clone of whole numbers, in the words of these proofs; package attr's Same, Through and Own.
-/
import Derived.Test.YtnifhaopjhgmnaaDoorGC
import Derived.Test.YtnifhaopjhgmnaaDoorGF
namespace Go.Proofs.YtnifhaopjhgmnaaDoor
open Go.RowKit

/-- the error's number of a lead (0: none). -/
def leadC (A : At) (x n : Int) : Int :=
  if 0 < (faultA A).1 then (faultA A).1
  else if x < 1 ∨ 1000 < x ∨ n < 0 ∨ 12 < n then 2
  else if 12 < (A.path.length : Int) + n then 7
  else 0
def leadA (A : At) (x n : Int) : At := { A with path := List.replicate n.toNat x ++ A.path }
def noneA : At := ⟨[], 0, 0, 0, []⟩
theorem attrK_none (w : World) : AttrK w (.agg #[.slice none 0 0, .int .i64 0, .int .i64 0, .int .i64 0, .slice none 0 0]) noneA :=
  ⟨none, 0, none, 0, rfl, ints_nil _ _, ints_nil _ _, .inl ⟨rfl, rfl, rfl⟩, .inl ⟨rfl, rfl, rfl⟩⟩

theorem AX.on' {w wr w' : World} {B S : Nat} {va vr : Array Value} (h : AX w wr B va vr) (hb : Below S wr w') (hS : B + 1 < S) : AX w w' B va vr := by
  obtain ⟨a, b, c⟩ := h
  exact ⟨by rw [hb.block B (by omega)]; exact a, by rw [hb.block (B + 1) hS]; exact b, c.trans (hb.mono (by omega))⟩
end Go.Proofs.YtnifhaopjhgmnaaDoor

namespace Go.Proofs.YtnifhaopjhgmnaaDoor
open Go.RowKit
open scoped Classical

theorem ints_at {w : World} {p : Option Addr} {L : List Int} (h : Ints w p L) (h0 : 0 < L.length) : ∃ b o, p = some ⟨b, o, none⟩ ∧ ∀ j, j < L.length → w.cell? ⟨b, o + j, none⟩ = some (.int .i64 (L.getD j 0)) := by
  obtain ⟨b, o, rfl, -⟩ := h 0 h0
  refine ⟨b, o, rfl, fun j hj => ?_⟩
  obtain ⟨b', o', e, c⟩ := h j hj
  simp only [Option.some.injEq, Addr.mk.injEq, and_true] at e
  obtain ⟨rfl, rfl⟩ := e
  rw [c]; simp [List.getD, hj]
theorem equal_any (p q : Option Addr) (L M : List Int) (c d : Nat) (w : World) (h : Ints w p L) (h' : Ints w q M) (hl : L.length ≤ 1000000) (hm : M.length ≤ 1000000) :
    Calls Tryd.prog 24 #[.slice p L.length c, .slice q M.length d] w fun r w' => r = .returned (.bool (decide (L = M))) ∧ Below w.heap.size w w' := by
  by_cases hn : L.length = M.length
  · by_cases h0 : L.length = 0
    · have e1 : L = [] := List.eq_nil_of_length_eq_zero h0
      have e2 : M = [] := List.eq_nil_of_length_eq_zero (by omega)
      subst e1 e2
      exact (Tryd.slices_Equal_int_empty p q c 0 d w (by omega)).mono fun e w' ⟨he, hw⟩ => ⟨by rw [he]; simp, by rw [hw]; exact Below.refl _ _⟩
    · obtain ⟨b, o, rfl, hc⟩ := ints_at h (by omega)
      obtain ⟨b', o', rfl, hc'⟩ := ints_at h' (by omega)
      refine (Tryd.slices_Equal_int b o L.length c b' o' M.length d L M w (Nat.le_refl _) (Nat.le_refl _) (by omega) (by omega) hc hc').mono fun e w' ⟨he, q, hw⟩ => ⟨?_, by rw [hw]; exact below_drewN (Below.refl _ _) _⟩
      rw [he, List.take_length, List.take_length]
      congr 2
      by_cases e : L = M <;> simp [e]
  · refine (Tryd.slices_Equal_int_lens p q L.length c M.length d w hn).mono fun e w' ⟨he, hw⟩ => ⟨?_, by rw [hw]; exact Below.refl _ _⟩
    rw [he, decide_eq_false (fun e => hn (by rw [e]))]
theorem contains_any (p : Option Addr) (L : List Int) (c : Nat) (x : Int) (w : World) (h : Ints w p L) (hl : L.length ≤ 1000000) :
    Calls Tryd.prog 22 #[.slice p L.length c, .int .i64 x] w fun r w' => r = .returned (.bool (L.contains x)) ∧ w' = w := by
  by_cases h0 : L.length = 0
  · have e1 : L = [] := List.eq_nil_of_length_eq_zero h0
    subst e1
    exact (Tryd.slices_Contains_int_empty p c x w).mono fun e w' ⟨he, hw⟩ => ⟨by rw [he]; rfl, hw⟩
  · obtain ⟨b, o, rfl, hc⟩ := ints_at h (by omega)
    refine (Tryd.slices_Contains_int b o L.length c L x w (Nat.le_refl _) (by omega) hc).mono fun e w' ⟨he, hw⟩ => ⟨?_, hw⟩
    rw [he, List.take_length]
theorem clone_any (p : Option Addr) (L : List Int) (c : Nat) (w : World) (h : Ints w p L) (hk : Kind1 p L.length c) (hl : L.length ≤ 1000000) :
    Calls Tryd.prog 28 #[.slice p L.length c] w fun r w' => (∃ v', r = .returned v' ∧ w'.ownsRow w.heap.size 3 1 v' L.length (L.map intV)) ∧ Below w.heap.size w w' := by
  rcases hk with ⟨rfl, h0, rfl⟩ | ⟨⟨b0, o0, rfl⟩, -, -⟩
  · have e1 : L = [] := List.eq_nil_of_length_eq_zero h0
    subst e1
    exact (Tryd.slices_Clone_int_nil 0 0 w).mono fun e w' ⟨he, hw⟩ => ⟨⟨_, he, World.ownsRow_nil _ _ _ _⟩, by rw [hw]; exact Below.refl _ _⟩
  · by_cases h0 : L.length = 0
    · have e1 : L = [] := List.eq_nil_of_length_eq_zero h0
      subst e1
      exact (Tryd.slices_Clone_int_zero ⟨b0, o0, none⟩ c w).mono fun e w' ⟨v', he, ho, _, hb⟩ => ⟨⟨_, he, ho⟩, hb⟩
    · obtain ⟨b, o, e, hc⟩ := ints_at h (by omega)
      simp only [Option.some.injEq, Addr.mk.injEq, and_true] at e
      obtain ⟨rfl, rfl⟩ := e
      refine (Tryd.slices_Clone_int b0 o0 L.length c L w (Nat.le_refl _) (by omega) hc).mono fun e w' ⟨v', he, ho, _, hb⟩ => ⟨⟨_, he, ?_⟩, hb⟩
      rw [List.take_length] at ho
      exact ho
theorem own_none (w : World) : Calls Tryd.prog 11 #[] w fun r w' => (∃ v, r = .returned v ∧ AttrK w' v ⟨[], 100, 0, 0, []⟩) ∧ Below w.heap.size w w' := by
  go_enter Tryd.func11, Tryd.ntmps11
  go_wp2_with fail
  refine bodyPost_ret (v := .agg #[.slice none 0 0, .int .i64 100, .int .i64 0, .int .i64 0, .slice none 0 0]) (by simp [results, Tryd.results11, go_sem]) rfl ⟨⟨_, rfl, none, 0, none, 0, rfl, ints_nil _ _, ints_nil _ _, .inl ⟨rfl, rfl, rfl⟩, .inl ⟨rfl, rfl, rfl⟩⟩, ?_⟩
  first | exact below_alloc _ _ | exact (((((below_alloc w _).setCell (Nat.le_refl _) _).setCell (Nat.le_refl _) _).setCell (Nat.le_refl _) _).setCell (Nat.le_refl _) _).setCell (Nat.le_refl _) _
set_option linter.unusedVariables false in
set_option maxRecDepth 100000 in
theorem through_any (v : Value) (A : At) (x : Int) (w : World) (h : IsAttr w v A) (h1 : A.path.length ≤ 1000000) :
    Calls Tryd.prog 23 #[v, .int .i64 x] w fun r w' => r = .returned (.bool (A.path.contains x)) ∧ Below w.heap.size w w' := by
  obtain ⟨p, cp, q, cq, rfl, i1, -⟩ := h
  obtain ⟨P, f, n, o, T⟩ := A
  simp only at *
  have HC : Hid (∀ w', Below w.heap.size w w' → Calls _ _ _ _ _) := fun w' hb => contains_any p P cp x w' (i1.below hb) h1
  obtain ⟨cb, hcb⟩ : ∃ b, Hid (P.contains x = b) := ⟨_, show _ = _ from rfl⟩
  rw [show P.contains x = cb from hcb.out] at HC ⊢
  clear i1
  go_enter Tryd.func23, Tryd.ntmps23
  go_wp2_with fail
  refine (HC.out _ (below_alloc _ _)).mono ?_
  rintro e w1 ⟨rfl, rfl⟩
  go_wp2_with fail
  go_ret
  exact ⟨rfl, below_alloc _ _⟩
set_option linter.unusedVariables false in
set_option maxRecDepth 100000 in
set_option maxHeartbeats 4000000 in
theorem same_any (v v' : Value) (A A' : At) (w : World) (h : IsAttr w v A) (h' : IsAttr w v' A') (h1 : A.path.length ≤ 1000000) (h2 : A.tags.length ≤ 1000000) (h3 : A'.path.length ≤ 1000000) (h4 : A'.tags.length ≤ 1000000) :
    Calls Tryd.prog 9 #[v, v'] w fun r w' => r = .returned (.bool (decide (A = A'))) ∧ Below w.heap.size w w' := by
  obtain ⟨p, cp, q, cq, rfl, i1, i2⟩ := h
  obtain ⟨p', cp', q', cq', rfl, i3, i4⟩ := h'
  obtain ⟨P, f, n, o, T⟩ := A
  obtain ⟨P', f', n', o', T'⟩ := A'
  simp only at *
  have HC : Hid (∀ w', Below w.heap.size w w' → Calls _ _ _ _ _) := fun w' hb => equal_any p p' P P' cp cp' w' (i1.below hb) (i3.below hb) h1 h3
  have HT : Hid (∀ w', Below w.heap.size w w' → Calls _ _ _ _ _) := fun w' hb => equal_any q q' T T' cq cq' w' (i2.below hb) (i4.below hb) h2 h4
  obtain ⟨cb, hcb⟩ : ∃ b, Hid (decide ((⟨P, f, n, o, T⟩ : At) = ⟨P', f', n', o', T'⟩) = b) := ⟨_, show _ = _ from rfl⟩
  rw [show decide ((⟨P, f, n, o, T⟩ : At) = ⟨P', f', n', o', T'⟩) = cb from hcb.out]
  obtain ⟨HQ⟩ : Nonempty (Hid (cb = (decide (f = f') && decide (n = n') && decide (o = o') && decide (P = P') && decide (T = T')))) := ⟨by
    rw [← hcb.out]
    simp only [At.mk.injEq, ← Bool.decide_and, decide_eq_decide]
    constructor
    · rintro ⟨a, b, c, d, e⟩; exact ⟨⟨⟨⟨b, c⟩, d⟩, a⟩, e⟩
    · rintro ⟨⟨⟨⟨b, c⟩, d⟩, a⟩, e⟩; exact ⟨a, b, c, d, e⟩⟩
  clear i1 i2 i3 i4 h1 h2 h3 h4 hcb
  by_cases e1 : f = f'
  · have e1' : (f == f') = true := by simp [e1]
    by_cases e2 : n = n'
    · have e2' : (n == n') = true := by simp [e2]
      by_cases e3 : o = o'
      · have e3' : (o == o') = true := by simp [e3]
        by_cases e4 : P = P'
        · obtain ⟨HP⟩ : Nonempty (Hid (decide (P = P') = true)) := ⟨decide_eq_true e4⟩
          rw [show decide (P = P') = true from HP.out] at HC
          obtain rfl : decide (T = T') = cb := by rw [HQ.out]; simp [e1, e2, e3, e4]
          obtain ⟨tb, htb⟩ : ∃ b, Hid (decide (T = T') = b) := ⟨_, show _ = _ from rfl⟩
          rw [show decide (T = T') = tb from htb.out] at HT ⊢
          clear e1 e2 e3 e4 HQ
          go_enter Tryd.func9, Tryd.ntmps9
          go_wp2_with fail
          refine (HC.out _ (below_two _ _ _)).mono ?_
          rintro e w1 ⟨rfl, hb1⟩
          have d1 := cell_kept hb1 (att_at _ _ _ _ _ _ _ _)
          have d2 := cell_kept hb1 (att_at2 _ _ _ _ _ _ _ _)
          replace hb1 := (below_two _ _ _).trans (hb1.mono (below_two _ _ _).size)
          go_wp2_with fail
          refine (HT.out _ hb1).mono ?_
          rintro e w2 ⟨rfl, hb2⟩
          go_wp2_with fail
          go_ret
          exact ⟨rfl, hb1.trans (hb2.mono hb1.size)⟩
        · obtain ⟨HP⟩ : Nonempty (Hid (decide (P = P') = false)) := ⟨decide_eq_false e4⟩
          rw [show decide (P = P') = false from HP.out] at HC
          obtain rfl : false = cb := by rw [HQ.out]; simp [e4]
          clear e1 e2 e3 e4 HQ
          go_enter Tryd.func9, Tryd.ntmps9
          go_wp2_with fail
          refine (HC.out _ (below_two _ _ _)).mono ?_
          rintro e w1 ⟨rfl, hb1⟩
          replace hb1 := (below_two _ _ _).trans (hb1.mono (below_two _ _ _).size)
          go_wp2_with fail
          go_ret
          exact ⟨rfl, hb1⟩
      · have e3' : (o == o') = false := by simp [e3]
        obtain rfl : false = cb := by rw [HQ.out]; simp [e3]
        clear e1 e2 e3 HQ HC HT
        go_enter Tryd.func9, Tryd.ntmps9
        go_wp2_with fail
        go_ret
        exact ⟨rfl, below_two _ _ _⟩
    · have e2' : (n == n') = false := by simp [e2]
      obtain rfl : false = cb := by rw [HQ.out]; simp [e2]
      clear e1 e2 HQ HC HT
      go_enter Tryd.func9, Tryd.ntmps9
      go_wp2_with fail
      go_ret
      exact ⟨rfl, below_two _ _ _⟩
  · have e1' : (f == f') = false := by simp [e1]
    obtain rfl : false = cb := by rw [HQ.out]; simp [e1]
    clear e1 HQ HC HT
    go_enter Tryd.func9, Tryd.ntmps9
    go_wp2_with fail
    go_ret
    exact ⟨rfl, below_two _ _ _⟩
end Go.Proofs.YtnifhaopjhgmnaaDoor
