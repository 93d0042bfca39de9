/-
  What is told of a route, in memory; the document's SameAttr, LongAttr and AttrFault.
-/
import Derived.Test.YtkcacdlgmapjjaaAttrRow
namespace Go.Proofs.Ytkcacdlgmapjjaa
open Go.RowKit
open scoped Classical

structure At where
  path : List Int
  pref : Int
  med : Int
  org : Int
  tags : List Int

/-- a value that holds what is told of a route. -/
def IsAttr (w : World) (v : Value) (A : At) : Prop :=
  ∃ p cp q cq, v = .agg #[.slice p A.path.length cp, .int .i64 A.pref, .int .i64 A.med, .int .i64 A.org, .slice q A.tags.length cq] ∧ Ints w p A.path ∧ Ints w q A.tags
theorem IsAttr.below {w w' : World} {v : Value} {A : At} (h : IsAttr w v A) (hb : Below w.heap.size w w') : IsAttr w' v A := by
  obtain ⟨p, cp, q, cq, e, h1, h2⟩ := h
  exact ⟨p, cp, q, cq, e, h1.below hb, h2.below hb⟩

theorem att_at (W : World) (a b c d e : Value) (t : TypeId) (o : Obj) : ((W.alloc (.cells #[a, b, c, d, e] t)).alloc o).cell? ⟨W.heap.size, 4, none⟩ = some e := by
  have h : (W.alloc (.cells #[a, b, c, d, e] t)).cell? ⟨W.heap.size, 4, none⟩ = some e := by rw [World.cell?_alloc_at _ _ _ _ rfl]; rfl
  exact cell_kept (below_alloc _ _) h
theorem att_at2 (W : World) (a b c d e : Value) (t : TypeId) (o : Obj) : ((W.alloc o).alloc (.cells #[a, b, c, d, e] t)).cell? ⟨W.heap.size + 1, 4, none⟩ = some e := by
  rw [World.cell?_alloc_at _ _ _ _ (by simp)]; rfl
theorem below_two (w : World) (o o' : Obj) : Below w.heap.size w ((w.alloc o).alloc o') := (below_alloc w o).trans ((below_alloc _ o').mono (below_alloc w o).size)
def longA (A : At) : Bool := decide (20 < A.path.length) || decide (15 < A.tags.length)

set_option linter.unusedVariables false in
set_option maxRecDepth 100000 in
set_option maxHeartbeats 1000000 in
theorem rLongAttr_any (v : Value) (A : At) (w : World) (h : IsAttr w v A) :
    Calls Try.prog 11 #[v] w fun r w' => r = .returned (.int .i64 (if longA A then 1 else 0)) ∧ Below w.heap.size w w' := by
  obtain ⟨p, cp, q, cq, rfl, -, -⟩ := h
  obtain ⟨P, f, m, o, T⟩ := A
  simp only
  by_cases h1 : 20 < P.length
  · have e1 : decide (20 < (P.length : Int)) = true := decide_eq_true (by omega)
    have eL : longA ⟨P, f, m, o, T⟩ = true := by simp [longA, h1]
    rw [eL]; clear eL
    go_enter Try.func11, Try.ntmps11
    go_wp2_with fail
    go_ret
    exact ⟨rfl, below_alloc _ _⟩
  · have e1 : decide (20 < (P.length : Int)) = false := decide_eq_false (by omega)
    by_cases h2 : 15 < T.length
    · have e2 : decide (15 < (T.length : Int)) = true := decide_eq_true (by omega)
      have eL : longA ⟨P, f, m, o, T⟩ = true := by simp [longA, h2]
      rw [eL]; clear eL
      go_enter Try.func11, Try.ntmps11
      go_wp2_with fail
      go_ret
      exact ⟨rfl, below_alloc _ _⟩
    · have e2 : decide (15 < (T.length : Int)) = false := decide_eq_false (by omega)
      have eL : longA ⟨P, f, m, o, T⟩ = false := by simp [longA]; omega
      rw [eL]; clear eL
      go_enter Try.func11, Try.ntmps11
      go_wp2_with fail
      go_ret
      exact ⟨rfl, below_alloc _ _⟩

set_option linter.unusedVariables false in
set_option maxRecDepth 100000 in
set_option maxHeartbeats 1000000 in
theorem rSameAttr_any (v v' : Value) (A A' : At) (w : World) (h : IsAttr w v A) (h' : IsAttr w v' A') (h1 : A.path.length ≤ 1000000) (h2 : A.tags.length ≤ 1000000) (h3 : A'.path.length ≤ 1000000) (h4 : A'.tags.length ≤ 1000000) :
    Calls Try.prog 18 #[v, v'] w fun r w' => r = .returned (.bool (decide (A = A'))) ∧ Below w.heap.size w w' := by
  obtain ⟨p, cp, q, cq, rfl, i1, i2⟩ := h
  obtain ⟨p', cp', q', cq', rfl, i3, i4⟩ := h'
  obtain ⟨P, f, m, o, T⟩ := A
  obtain ⟨P', f', m', o', T'⟩ := A'
  simp only at *
  have HC : Hid (∀ w', Below w.heap.size w w' → Calls _ _ _ _ _) := fun w' hb => rSameInts_any p p' P P' _ _ cp cp' w' (i1.below hb) (i3.below hb) rfl rfl h1 h3
  have HT : Hid (∀ w', Below w.heap.size w w' → Calls _ _ _ _ _) := fun w' hb => rSameInts_any q q' T T' _ _ cq cq' w' (i2.below hb) (i4.below hb) rfl rfl h2 h4
  obtain ⟨cb, hcb⟩ : ∃ b, Hid (decide ((⟨P, f, m, o, T⟩ : At) = ⟨P', f', m', o', T'⟩) = b) := ⟨_, show _ = _ from rfl⟩
  rw [show decide ((⟨P, f, m, o, T⟩ : At) = ⟨P', f', m', o', T'⟩) = cb from hcb.out]
  obtain ⟨HQ⟩ : Nonempty (Hid (cb = (decide (f = f') && decide (m = m') && decide (o = o') && decide (P = P') && decide (T = T')))) := ⟨by
    rw [← hcb.out]
    simp only [At.mk.injEq, ← Bool.decide_and, decide_eq_decide]
    constructor
    · rintro ⟨a, b, c, d, e⟩; exact ⟨⟨⟨⟨b, c⟩, d⟩, a⟩, e⟩
    · rintro ⟨⟨⟨⟨b, c⟩, d⟩, a⟩, e⟩; exact ⟨a, b, c, d, e⟩⟩
  clear i1 i2 i3 i4 h1 h2 h3 h4 hcb
  by_cases e1 : f = f'
  · have e1' : (f != f') = false := by simp [e1]
    by_cases e2 : m = m'
    · have e2' : (m != m') = false := by simp [e2]
      by_cases e3 : o = o'
      · have e3' : (o != o') = false := by simp [e3]
        by_cases e4 : P = P'
        · obtain ⟨HP⟩ : Nonempty (Hid (decide (P = P') = true)) := ⟨decide_eq_true e4⟩
          rw [show decide (P = P') = true from HP.out] at HC
          obtain rfl : decide (T = T') = cb := by rw [HQ.out]; simp [e1, e2, e3, e4]
          obtain ⟨tb, htb⟩ : ∃ b, Hid (decide (T = T') = b) := ⟨_, show _ = _ from rfl⟩
          rw [show decide (T = T') = tb from htb.out] at HT ⊢
          clear e1 e2 e3 e4 HQ
          go_enter Try.func18, Try.ntmps18
          go_wp2_with fail
          refine (HC.out _ (below_two _ _ _)).mono ?_
          rintro e w1 ⟨rfl, hb1⟩
          have d1 := cell_kept hb1 (att_at _ _ _ _ _ _ _ _)
          have d2 := cell_kept hb1 (att_at2 _ _ _ _ _ _ _ _)
          replace hb1 := (below_two _ _ _).trans (hb1.mono (below_two _ _ _).size)
          go_wp2_with fail
          refine (HT.out _ hb1).mono ?_
          rintro e w2 ⟨rfl, hb2⟩
          go_wp2_with fail
          go_ret
          exact ⟨rfl, hb1.trans (hb2.mono hb1.size)⟩
        · obtain ⟨HP⟩ : Nonempty (Hid (decide (P = P') = false)) := ⟨decide_eq_false e4⟩
          rw [show decide (P = P') = false from HP.out] at HC
          obtain rfl : false = cb := by rw [HQ.out]; simp [e4]
          clear e1 e2 e3 e4 HQ
          go_enter Try.func18, Try.ntmps18
          go_wp2_with fail
          refine (HC.out _ (below_two _ _ _)).mono ?_
          rintro e w1 ⟨rfl, hb1⟩
          replace hb1 := (below_two _ _ _).trans (hb1.mono (below_two _ _ _).size)
          go_wp2_with fail
          go_ret
          exact ⟨rfl, hb1⟩
      · have e3' : (o != o') = true := by simp [e3]
        obtain rfl : false = cb := by rw [HQ.out]; simp [e3]
        clear e1 e2 e3 HQ HC HT
        go_enter Try.func18, Try.ntmps18
        go_wp2_with fail
        go_ret
        exact ⟨rfl, below_two _ _ _⟩
    · have e2' : (m != m') = true := by simp [e2]
      obtain rfl : false = cb := by rw [HQ.out]; simp [e2]
      clear e1 e2 HQ HC HT
      go_enter Try.func18, Try.ntmps18
      go_wp2_with fail
      go_ret
      exact ⟨rfl, below_two _ _ _⟩
  · have e1' : (f != f') = true := by simp [e1]
    obtain rfl : false = cb := by rw [HQ.out]; simp [e1]
    clear e1 HQ HC HT
    go_enter Try.func18, Try.ntmps18
    go_wp2_with fail
    go_ret
    exact ⟨rfl, below_two _ _ _⟩
end Go.Proofs.Ytkcacdlgmapjjaa
