/-
  A path that is led, a tag that is put among others: plain mathematics.
-/
import Derived.Test.YtkebcfjofeoehaaGreatDoorAttrTag1
namespace Go.Proofs.YtkebcfjofeoehaaGreatDoor
open Go.RowKit

theorem lead_ok {A : At} (hA : RightA A) {x n : Int} (h : leadC A x n = 0) : ∃ N : Nat, n = (N : Int) ∧ N ≤ 12 ∧ (1 ≤ x ∧ x ≤ 1000) ∧ A.path.length + N ≤ 12 := by
  unfold leadC at h
  rw [fault_of_right hA, if_neg (by decide)] at h
  split at h
  · simp at h
  · split at h
    · simp at h
    · exact ⟨n.toNat, by omega, by omega, by omega, by omega⟩
theorem lead_right {A : At} (hA : RightA A) {x n : Int} (h : leadC A x n = 0) : RightA (leadA A x n) := by
  obtain ⟨N, rfl, h1, h2, h3⟩ := lead_ok hA h
  refine ⟨?_, hA.tags, ?_, hA.pref, hA.med, hA.org, hA.tag, hA.rise⟩
  · simp [leadA]; omega
  · intro y hy
    simp only [leadA, Int.toNat_natCast, List.mem_append] at hy
    rcases hy with hy | hy
    · rw [List.eq_of_mem_replicate hy]; exact h2
    · exact hA.sys y hy
theorem lead_len (A : At) (x : Int) (N : Nat) : (leadA A x (N : Int)).path.length = A.path.length + N := by simp [leadA]; omega
theorem lead_has (A : At) (x : Int) (N : Nat) (h : 0 < N) : (leadA A x (N : Int)).path.contains x = true := by
  simp only [leadA, Int.toNat_natCast, List.contains_iff_mem, List.mem_append]
  exact .inl (by rw [List.mem_replicate]; exact ⟨by omega, rfl⟩)
theorem lead_drop (A : At) (x : Int) (N : Nat) : (leadA A x (N : Int)).path.drop N = A.path := by
  simp only [leadA, Int.toNat_natCast]
  rw [List.drop_append_of_le_length (by simp), List.drop_of_length_le (by simp)]; rfl

theorem pos_split {T : List Int} (h : T.Pairwise (· < ·)) (x : Int) : (∀ y ∈ T.take (tagPos T x), y < x) ∧ (∀ y ∈ T.drop (tagPos T x), x ≤ y) := by
  induction T with
  | nil => simp
  | cons a T ih =>
    obtain ⟨h1, h2⟩ := List.pairwise_cons.1 h
    obtain ⟨i1, i2⟩ := ih h2
    by_cases ha : a < x
    · have e : tagPos (a :: T) x = tagPos T x + 1 := by simp [tagPos, ha]
      rw [e]
      refine ⟨?_, ?_⟩
      · intro y hy
        rw [List.take_succ_cons] at hy
        rcases List.mem_cons.1 hy with rfl | hy
        · exact ha
        · exact i1 y hy
      · intro y hy
        rw [List.drop_succ_cons] at hy
        exact i2 y hy
    · have e : tagPos (a :: T) x = 0 := by
        have h0 : tagPos T x = 0 := by
          unfold tagPos
          rw [List.countP_eq_zero]
          intro y hy
          have := h1 y hy
          simp; omega
        unfold tagPos at h0 ⊢
        rw [List.countP_cons_of_neg (by simpa using ha)]
        exact h0
      rw [e]
      refine ⟨by simp, ?_⟩
      intro y hy
      rw [List.drop_zero] at hy
      rcases List.mem_cons.1 hy with rfl | hy
      · omega
      · have := h1 y hy; omega
theorem ins_pair {T : List Int} (h : T.Pairwise (· < ·)) (x : Int) (hx : T.contains x = false) : (T.take (tagPos T x) ++ x :: T.drop (tagPos T x)).Pairwise (· < ·) := by
  obtain ⟨h1, h2⟩ := pos_split h x
  have hnot : ∀ y ∈ T.drop (tagPos T x), x < y := fun y hy => by
    have := h2 y hy
    rcases Int.lt_or_eq_of_le this with h | h
    · exact h
    · exfalso
      rw [← Bool.not_eq_true, List.contains_iff_mem] at hx
      exact hx (by rw [h]; exact List.mem_of_mem_drop hy)
  have hp := h
  rw [← List.take_append_drop (tagPos T x) T, List.pairwise_append] at hp
  obtain ⟨p1, p2, p3⟩ := hp
  rw [List.pairwise_append]
  refine ⟨p1, List.pairwise_cons.2 ⟨hnot, p2⟩, ?_⟩
  intro a ha b hb
  rcases List.mem_cons.1 hb with rfl | hb
  · exact h1 a ha
  · exact p3 a ha b hb
theorem tagIns_pair {T : List Int} (h : T.Pairwise (· < ·)) (x : Int) : (tagIns T x).Pairwise (· < ·) := by
  unfold tagIns
  cases hx : T.contains x with
  | true => simpa using h
  | false => simpa using ins_pair h x hx
theorem mem_tagIns (T : List Int) (x y : Int) : y ∈ tagIns T x ↔ y = x ∨ y ∈ T := by
  unfold tagIns
  cases hx : T.contains x with
  | true =>
    rw [List.contains_iff_mem] at hx
    simp only [if_true]
    constructor
    · exact Or.inr
    · rintro (rfl | h)
      · exact hx
      · exact h
  | false =>
    simp only [Bool.false_eq_true, if_false, List.mem_append, List.mem_cons]
    constructor
    · rintro (h | h | h)
      · exact .inr (List.mem_of_mem_take h)
      · exact .inl h
      · exact .inr (List.mem_of_mem_drop h)
    · rintro (h | h)
      · exact .inr (.inl h)
      · rw [← List.take_append_drop (tagPos T x) T, List.mem_append] at h
        rcases h with h | h
        · exact .inl h
        · exact .inr (.inr h)
theorem tagIns_len (T : List Int) (x : Int) : (tagIns T x).length ≤ T.length + 1 ∧ (T.contains x = true → tagIns T x = T) := by
  refine ⟨?_, fun h => by unfold tagIns; rw [if_pos h]⟩
  unfold tagIns
  split
  · omega
  · rw [ins_len T x (tagPos T x) (by unfold tagPos; exact List.countP_le_length)]; exact Nat.le_refl _
theorem count_one {T : List Int} (h : T.Pairwise (· < ·)) {x : Int} (hx : x ∈ T) : T.count x = 1 := by
  induction T with
  | nil => simp at hx
  | cons a T ih =>
    obtain ⟨h1, h2⟩ := List.pairwise_cons.1 h
    by_cases ha : a = x
    · subst ha
      have : T.count a = 0 := List.count_eq_zero.2 (fun hm => by have := h1 a hm; omega)
      simp [this]
    · rcases List.mem_cons.1 hx with e | hm
      · exact absurd e.symm ha
      · rw [List.count_cons_of_ne (by simpa using ha)]; exact ih h2 hm
theorem tag_ok {A : At} (hA : RightA A) {x : Int} (h : tagC A x = 0) : (1 ≤ x ∧ x ≤ 9999) ∧ (A.tags.contains x = true ∨ A.tags.length < 8) := by
  unfold tagC at h
  rw [fault_of_right hA, if_neg (by decide)] at h
  split at h
  · simp at h
  · rename_i h1
    refine ⟨by omega, ?_⟩
    split at h
    · exact .inl (by assumption)
    · split at h
      · simp at h
      · exact .inr (by omega)
theorem tag_right {A : At} (hA : RightA A) {x : Int} (h : tagC A x = 0) : RightA (tagA A x) := by
  obtain ⟨h1, h2⟩ := tag_ok hA h
  have hp := tagIns_pair (rise_pair hA.rise) x
  refine ⟨hA.path, ?_, hA.sys, hA.pref, hA.med, hA.org, ?_, ?_⟩
  · show (tagIns A.tags x).length ≤ 8
    rcases h2 with h2 | h2
    · rw [(tagIns_len A.tags x).2 h2]; exact hA.tags
    · have := (tagIns_len A.tags x).1; omega
  · intro y hy
    rcases (mem_tagIns A.tags x y).1 hy with rfl | hy
    · exact h1
    · exact hA.tag y hy
  · intro j hj
    exact (List.pairwise_iff_getElem.1 hp) j (j + 1) _ _ (by omega)
theorem tag_again {A : At} (hA : RightA A) {x : Int} (h : tagC A x = 0) : tagC (tagA A x) x = 0 ∧ tagA (tagA A x) x = tagA A x := by
  obtain ⟨h1, -⟩ := tag_ok hA h
  exact tagC_there (tag_right hA h) (by omega) (by rw [List.contains_iff_mem]; exact (mem_tagIns A.tags x x).2 (.inl rfl))
theorem tag_count {A : At} (hA : RightA A) (x : Int) : (tagA A x).tags.count x = 1 := count_one (tagIns_pair (rise_pair hA.rise) x) ((mem_tagIns A.tags x x).2 (.inl rfl))
theorem tag_has (A : At) (x y : Int) (h : y ∈ A.tags) : (tagA A x).tags.contains y = true := by
  rw [List.contains_iff_mem]; exact (mem_tagIns A.tags x y).2 (.inr h)
theorem count_take (T : List Int) (x : Int) (k : Nat) (h : k < T.length) : (T.take (k + 1)).count x = (T.take k).count x + if T[k] = x then 1 else 0 := by
  rw [List.take_succ_eq_append_getElem h, List.count_append]
  congr 1
  simp [List.count_cons]
end Go.Proofs.YtkebcfjofeoehaaGreatDoor
