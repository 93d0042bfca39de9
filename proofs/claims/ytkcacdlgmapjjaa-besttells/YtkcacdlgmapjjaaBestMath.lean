/-
  The order of lists of whole numbers, number by number, of two that begin alike the shorter one first; things sorted by a list that tells them apart: plain mathematics.
-/
import Derived.ProofKit
namespace Go.Proofs.Ytkcacdlgmapjjaa

/-- is a list ahead of another one? -/
def ltI : List Int → List Int → Bool
  | _, [] => false
  | [], _ :: _ => true
  | x :: a, y :: b => decide (x < y) || (decide (x = y) && ltI a b)
theorem ltI_nil (a : List Int) : ltI a [] = false := by cases a <;> rfl
theorem ltI_irrefl (a : List Int) : ltI a a = false := by
  induction a with
  | nil => rfl
  | cons x a ih => simp [ltI, ih]
theorem ltI_trans {a b c : List Int} (h : ltI a b = true) (g : ltI b c = true) : ltI a c = true := by
  induction a generalizing b c with
  | nil =>
    cases c with
    | nil => rw [ltI_nil] at g; cases g
    | cons z c => rfl
  | cons x a ih =>
    cases b with
    | nil => rw [ltI_nil] at h; cases h
    | cons y b =>
      cases c with
      | nil => rw [ltI_nil] at g; cases g
      | cons z c =>
        simp only [ltI, Bool.or_eq_true, Bool.and_eq_true, decide_eq_true_eq] at h g ⊢
        rcases h with h | ⟨h, h'⟩ <;> rcases g with g | ⟨g, g'⟩
        · left; omega
        · left; omega
        · left; omega
        · exact .inr ⟨by omega, ih h' g'⟩
theorem ltI_asymm {a b : List Int} (h : ltI a b = true) : ltI b a = false := by
  cases g : ltI b a with
  | false => rfl
  | true => have := ltI_trans h g; rw [ltI_irrefl] at this; cases this
theorem ltI_total {a b : List Int} (h : ltI a b = false) (g : ltI b a = false) : a = b := by
  induction a generalizing b with
  | nil =>
    cases b with
    | nil => rfl
    | cons y b => cases h
  | cons x a ih =>
    cases b with
    | nil => cases g
    | cons y b =>
      simp only [ltI, Bool.or_eq_false_iff, Bool.and_eq_false_iff, decide_eq_false_iff_not] at h g
      have hxy : x = y := by omega
      subst hxy
      rw [ih (by simpa using h.2) (by simpa using g.2)]
theorem ltI_append {a b : List Int} (c d : List Int) (h : a.length = b.length) : ltI (a ++ c) (b ++ d) = (ltI a b || (decide (a = b) && ltI c d)) := by
  induction a generalizing b with
  | nil =>
    cases b with
    | nil => simp [ltI]
    | cons y b => cases h
  | cons x a ih =>
    cases b with
    | nil => cases h
    | cons y b =>
      have h' : a.length = b.length := by simpa using h
      simp only [List.cons_append, ltI, ih h', List.cons.injEq]
      by_cases hx : x = y
      · subst hx; simp
      · simp [hx]
/-- what stands at the first place at which two lists part. -/
theorem ltI_at {a b : List Int} {k : Nat} (h : a.take k = b.take k) (h1 : k < a.length) (h2 : k < b.length) (hx : a[k] < b[k]) : ltI a b = true ∧ ltI b a = false := by
  have : ltI a b = true := by
    have ha : a = a.take k ++ a[k] :: a.drop (k + 1) := by rw [← List.drop_eq_getElem_cons h1, List.take_append_drop]
    have hb : b = b.take k ++ b[k] :: b.drop (k + 1) := by rw [← List.drop_eq_getElem_cons h2, List.take_append_drop]
    rw [ha, hb, ltI_append _ _ (by simp [List.length_take]; omega), h]
    simp only [ltI, decide_eq_true hx]
    simp
  exact ⟨this, ltI_asymm this⟩
/-- where two lists begin alike, the shorter one is ahead. -/
theorem ltI_short {a b : List Int} {k : Nat} (h : a.take k = b.take k) (hk : k = a.length ∨ k = b.length) : ltI a b = decide (a.length < b.length) := by
  by_cases hl : a.length < b.length
  · rw [decide_eq_true hl]
    have hk' : a.length ≤ k ∨ k = b.length := by omega
    have ha : b = a ++ b.drop a.length := by
      have h3 : b.take a.length = a := by
        rcases hk with rfl | rfl
        · rw [← h]; simp
        · rw [List.take_of_length_le (by omega), List.take_of_length_le (by omega)] at h
          rw [h] at hl
          omega
      conv => lhs; rw [← List.take_append_drop a.length b, h3]
    have hd : b.drop a.length ≠ [] := by
      intro e
      have := congrArg List.length e
      simp at this
      omega
    rw [ha]
    have := ltI_append (a := a) (b := a) [] (b.drop a.length) rfl
    rw [List.append_nil] at this
    rw [this]
    cases hd' : b.drop a.length with
    | nil => exact absurd hd' hd
    | cons y r => simp [ltI]
  · rw [decide_eq_false hl]
    have hb : a = b ++ a.drop b.length := by
      have h3 : a.take b.length = b := by
        rcases hk with rfl | rfl
        · rw [List.take_length, List.take_of_length_le (by omega)] at h
          rw [h, List.take_length]
        · rw [h]; simp
      conv => lhs; rw [← List.take_append_drop b.length a, h3]
    rw [hb]
    have := ltI_append (a := b) (b := b) (a.drop b.length) [] rfl
    rw [List.append_nil] at this
    rw [this, ltI_irrefl, ltI_nil]
    simp
/-- below 0: the first one is ahead. -/
def ordI (a b : List Int) : Int := if ltI a b = true then -1 else if ltI b a = true then 1 else 0
theorem ordI_neg (a b : List Int) : decide (ordI a b < 0) = ltI a b := by
  unfold ordI
  cases ltI a b <;> cases ltI b a <;> simp
theorem ordI_zero (a b : List Int) : ordI a b = 0 ↔ a = b := by
  constructor
  · intro h
    unfold ordI at h
    cases h1 : ltI a b with
    | true => rw [h1] at h; simp at h
    | false =>
      cases h2 : ltI b a with
      | true => rw [h1, h2] at h; simp at h
      | false => exact ltI_total h1 h2
  · rintro rfl
    unfold ordI
    rw [ltI_irrefl]
    simp
/-- the order of two lists that begin with as many. -/
theorem ordI_append {a b : List Int} (c d : List Int) (h : a.length = b.length) : ordI (a ++ c) (b ++ d) = if ordI a b = 0 then ordI c d else ordI a b := by
  by_cases hab : a = b
  · subst hab
    rw [if_pos ((ordI_zero _ _).2 rfl)]
    unfold ordI
    rw [ltI_append _ _ rfl, ltI_append _ _ rfl, ltI_irrefl]
    simp
  · rw [if_neg (fun e => hab ((ordI_zero _ _).1 e))]
    unfold ordI
    rw [ltI_append _ _ h, ltI_append _ _ h.symm, decide_eq_false hab, decide_eq_false (fun e => hab e.symm)]
    simp

/-- the better ones first. -/
def SortedK {α : Type} (key : α → List Int) (L : List α) : Prop := L.Pairwise fun a b => ltI (key b) (key a) = false
/-- one of a list that none of it is ahead of. -/
def BestK {α : Type} (key : α → List Int) (L : List α) (a : α) : Prop := a ∈ L ∧ ∀ y ∈ L, ltI (key y) (key a) = false
theorem bestK_unique {α : Type} (key : α → List Int) (inj : ∀ a b, key a = key b → a = b) {L M : List α} (hp : L.Perm M) {a b : α} (ha : BestK key L a) (hb : BestK key M b) : a = b :=
  inj a b (ltI_total (hb.2 a (hp.mem_iff.1 ha.1)) (ha.2 b (hp.mem_iff.2 hb.1)))
theorem sortedK_best {α : Type} (key : α → List Int) {a : α} {L M : List α} (hs : SortedK key (a :: L)) (hp : (a :: L).Perm M) : BestK key M a := by
  refine ⟨hp.mem_iff.1 (List.mem_cons_self ..), fun y hy => ?_⟩
  rcases List.mem_cons.1 (hp.mem_iff.2 hy) with rfl | hm
  · exact ltI_irrefl _
  · exact (List.pairwise_cons.1 hs).1 y hm
theorem sortedK_unique {α : Type} (key : α → List Int) (inj : ∀ a b, key a = key b → a = b) {L M : List α} (hp : L.Perm M) (hL : SortedK key L) (hM : SortedK key M) : L = M := by
  induction L generalizing M with
  | nil => exact (List.nil_perm.1 hp).symm
  | cons a L ih =>
    cases M with
    | nil => exact absurd hp.length_eq (by simp)
    | cons b M =>
      have hab : a = b := bestK_unique key inj (List.Perm.refl _) (sortedK_best key hL hp) (sortedK_best key hM (List.Perm.refl _))
      subst hab
      rw [ih (List.perm_cons a |>.1 hp) (List.pairwise_cons.1 hL).2 (List.pairwise_cons.1 hM).2]
/-- one more, ahead of those that it is ahead of. -/
theorem sortedK_insert {α : Type} (key : α → List Int) {M : List α} (hM : SortedK key M) (x : α) (at0 : Nat) (h1 : ∀ i (h : i < M.length), at0 ≤ i → ltI (key M[i]) (key x) = false) (h2 : ∀ i (h : i < M.length), i < at0 → ltI (key x) (key M[i]) = false) :
    SortedK key (M.take at0 ++ x :: M.drop at0) := by
  have hM' : SortedK key (M.take at0 ++ M.drop at0) := by rw [List.take_append_drop]; exact hM
  obtain ⟨ha, hb, hab⟩ := List.pairwise_append.1 hM'
  refine List.pairwise_append.2 ⟨ha, List.pairwise_cons.2 ⟨fun y hy => ?_, hb⟩, fun y hy z hz => ?_⟩
  · obtain ⟨i, hi, rfl⟩ := List.mem_iff_getElem.1 hy
    rw [List.getElem_drop]
    exact h1 _ _ (by omega)
  · rcases List.mem_cons.1 hz with rfl | hz
    · obtain ⟨i, hi, rfl⟩ := List.mem_iff_getElem.1 hy
      rw [List.getElem_take]
      rw [List.length_take] at hi
      exact h2 _ _ (by omega)
    · exact hab y hy z hz
theorem perm_insert {α : Type} (M : List α) (x : α) (at0 : Nat) : (M.take at0 ++ x :: M.drop at0).Perm (x :: M) := by
  have := List.perm_middle (a := x) (l₁ := M.take at0) (l₂ := M.drop at0)
  rw [List.take_append_drop] at this
  exact this
/-- in a sorted list, what is not ahead of one is not ahead of any before it. -/
theorem sortedK_down {α : Type} (key : α → List Int) {M : List α} (hM : SortedK key M) (x : α) {i k : Nat} (hk : k < M.length) (hi : i ≤ k) (h : ltI (key x) (key M[k]) = false) : ltI (key x) (key (M[i]'(by omega))) = false := by
  by_cases e : i = k
  · subst e; exact h
  have h1 := List.pairwise_iff_getElem.1 hM i k (by omega) hk (by omega)
  cases h2 : ltI (key x) (key (M[i]'(by omega))) with
  | false => rfl
  | true =>
    cases h3 : ltI (key (M[i]'(by omega))) (key M[k]) with
    | true => have := ltI_trans h2 h3; rw [h] at this; cases this
    | false => rw [ltI_total h3 h1] at h2; rw [h] at h2; cases h2
theorem perm_turned {α : Type} (L : List α) (k : Nat) : (L.drop k ++ L.take k).Perm L := by
  have := List.perm_append_comm (l₁ := L.drop k) (l₂ := L.take k)
  rw [List.take_append_drop] at this
  exact this
end Go.Proofs.Ytkcacdlgmapjjaa
