/-
  The document's TagOf: a tag put among the tags.
-/
import Derived.Test.YtjmknjhdgjogaaaGreatDoorAttrLawMath
namespace Go.Proofs.YtjmknjhdgjogaaaGreatDoor
open Go.RowKit

theorem pos_le (T : List Int) (x : Int) : tagPos T x ≤ T.length := by unfold tagPos; exact List.countP_le_length
theorem pos_before {T : List Int} (h : T.Pairwise (· < ·)) (x : Int) (j : Nat) (hj : j < tagPos T x) : ∃ hl : j < T.length, T[j] < x := by
  have hl : j < T.length := by have := pos_le T x; omega
  refine ⟨hl, (pos_split h x).1 _ ?_⟩
  rw [List.mem_take_iff_getElem]
  exact ⟨j, by omega, rfl⟩
theorem pos_at {T : List Int} (h : T.Pairwise (· < ·)) (x : Int) (hl : tagPos T x < T.length) : x ≤ T[tagPos T x] := by
  apply (pos_split h x).2
  rw [List.mem_drop_iff_getElem]
  exact ⟨0, by omega, by simp⟩
theorem pos_has {T : List Int} (h : T.Pairwise (· < ·)) (x : Int) : T.contains x = true ↔ ∃ hl : tagPos T x < T.length, T[tagPos T x] = x := by
  rw [List.contains_iff_mem]
  constructor
  · intro hm
    rw [← List.take_append_drop (tagPos T x) T, List.mem_append] at hm
    rcases hm with hm | hm
    · have := (pos_split h x).1 x hm; omega
    · obtain ⟨i, hi, e⟩ := List.mem_drop_iff_getElem.1 hm
      have hl : tagPos T x < T.length := by omega
      refine ⟨hl, ?_⟩
      have h1 := pos_at h x hl
      cases i with
      | zero => simpa using e
      | succ i =>
        have := (List.pairwise_iff_getElem.1 h) (tagPos T x) (tagPos T x + (i + 1)) hl (by omega) (by omega)
        rw [e] at this
        omega
  · rintro ⟨hl, e⟩
    have := List.getElem_mem hl
    rw [e] at this
    exact this

set_option linter.unusedVariables false in
set_option maxRecDepth 100000 in
set_option maxHeartbeats 4000000 in
theorem rTagOf_bad (v : Value) (A : At) (x : Int) (w : World) (h : AttrK w v A) (h1 : A.path.length ≤ 1000000) (h2 : A.tags.length ≤ 1000000) (hf : 0 < (faultA A).1) :
    Calls Tryz.prog 24 #[v, .int .i64 x] w fun r w' => (∃ v', r = .returned (.tuple #[v', .int .i64 (tagC A x)]) ∧ AttrK w' v' noneA) ∧ Below w.heap.size w w' := by
  have e0 : tagC A x = (faultA A).1 := by unfold tagC; rw [if_pos hf]
  rw [e0]
  obtain ⟨f0, hf0⟩ : ∃ x, Hid ((faultA A).1 = x) := ⟨_, show _ = _ from rfl⟩
  obtain ⟨f1, hf1⟩ : ∃ x, Hid ((faultA A).2 = x) := ⟨_, show _ = _ from rfl⟩
  have HF : Hid (faultA A = (f0, f1)) := by show _ = _; rw [← hf0.out, ← hf1.out]
  have hpos : 0 < f0 := by rw [← hf0.out]; exact hf
  rw [show (faultA A).1 = f0 from hf0.out]
  have HC : Hid (∀ w', Below w.heap.size w w' → Calls _ _ _ _ _) := fun w' hb => rAttrFault_any v A w' (h.attr.below hb) h1 h2 f0 f1 HF
  obtain ⟨p, cp, q, cq, rfl, -, -, -, -⟩ := h
  obtain ⟨P, f, m, o, T⟩ := A
  simp only at *
  clear hf HF hf0 hf1 e0
  have hfd := field_code f0 f1
  go_enter Tryz.func24, Tryz.ntmps24
  go_wp2_with fail
  refine (HC.out _ (below_two _ _ _)).mono ?_
  rintro e w1 ⟨rfl, hb1⟩
  have hx := (ax_start w _ _).on hb1
  obtain ⟨HB1⟩ : Nonempty (Hid (Below w.heap.size w w1)) := ⟨hx.2.2⟩
  obtain ⟨r0, r1, r2, r3, r4⟩ := hx.res
  have y0 := (hx.soft 0).2
  have y1 := (hx.soft 1).2
  have y2 := (hx.soft 2).2
  have y3 := (hx.soft 3).2
  have y4 := (hx.soft 4).2
  clear hb1 HC hx
  go_wp2_with fail
  refine bodyPost_ret (v := .tuple #[.agg #[.slice none 0 0, .int .i64 0, .int .i64 0, .int .i64 0, .slice none 0 0], .int .i64 f0]) (by simp [results, Tryz.results24, go_sem, r0, r1, r2, r3, r4]) rfl ⟨⟨_, rfl, attrK_none _⟩, ?_⟩
  exact ((((HB1.out.setCell (by simp) _).setCell (by simp) _).setCell (by simp) _).setCell (by simp) _).setCell (by simp) _

set_option linter.unusedVariables false in
set_option maxRecDepth 100000 in
set_option maxHeartbeats 4000000 in
theorem rTagOf_bound (v : Value) (A : At) (x : Int) (w : World) (h : AttrK w v A) (hA : RightA A) (hb : x < 1 ∨ 9999 < x) :
    Calls Tryz.prog 24 #[v, .int .i64 x] w fun r w' => (∃ v', r = .returned (.tuple #[v', .int .i64 (tagC A x)]) ∧ AttrK w' v' noneA) ∧ Below w.heap.size w w' := by
  have HC : Hid (∀ w', Below w.heap.size w w' → Calls _ _ _ _ _) := fun w' hb => rAttrFault_any v A w' (h.attr.below hb) (by have := hA.path; omega) (by have := hA.tags; omega) 0 (-1) (fault_of_right hA)
  rw [tagC_bound hA hb]
  have g2 : decide (x < 1) = true ∨ (decide (x < 1) = false ∧ decide (9999 < x) = true) := by
    simp only [decide_eq_true_eq, decide_eq_false_iff_not]
    omega
  obtain ⟨p, cp, q, cq, rfl, -, -, -, -⟩ := h
  obtain ⟨P, f, m, o, T⟩ := A
  simp only at *
  clear hA hb
  have hfd := field_code 0 (-1)
  rcases g2 with g1 | ⟨g1, g2⟩
  all_goals
    go_enter Tryz.func24, Tryz.ntmps24
    go_wp2_with fail
    refine (HC.out _ (below_two _ _ _)).mono ?_
    rintro e w1 ⟨rfl, hb1⟩
    have hx := (ax_start w _ _).on hb1
    obtain ⟨HB1⟩ : Nonempty (Hid (Below w.heap.size w w1)) := ⟨hx.2.2⟩
    obtain ⟨a0, a1, a2, a3, a4⟩ := hx.arg
    obtain ⟨r0, r1, r2, r3, r4⟩ := hx.res
    have y0 := (hx.soft 0).2
    have y1 := (hx.soft 1).2
    have y2 := (hx.soft 2).2
    have y3 := (hx.soft 3).2
    have y4 := (hx.soft 4).2
    clear hb1 HC hx
    go_wp2_with fail
    refine bodyPost_ret (v := .tuple #[.agg #[.slice none 0 0, .int .i64 0, .int .i64 0, .int .i64 0, .slice none 0 0], .int .i64 2]) (by simp [results, Tryz.results24, go_sem, r0, r1, r2, r3, r4]) rfl ⟨⟨_, rfl, attrK_none _⟩, ?_⟩
    exact ((((HB1.out.setCell (by simp) _).setCell (by simp) _).setCell (by simp) _).setCell (by simp) _).setCell (by simp) _
end Go.Proofs.YtjmknjhdgjogaaaGreatDoor
