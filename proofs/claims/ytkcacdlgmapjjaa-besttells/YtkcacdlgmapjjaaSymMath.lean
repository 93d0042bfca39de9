/-
  Rows of things that are swapped, turned and merged: plain mathematics of slices.SortStableFunc's merging.
-/
import Derived.Sort.LotA
namespace Go.Proofs.Ytkcacdlgmapjjaa
open Go.Sort (SWO PermIn SortedIn swp swp_get swp_size swp_permIn permIn_refl permIn_trans permIn_mono permIn_all)

theorem at_eq {α : Type} [Inhabited α] (d : Array α) {i j : Nat} (h : i = j) : d[i]! = d[j]! := by rw [h]

/-- n things from a on, and n from b on, have changed places. -/
def SwR {α : Type} [Inhabited α] (d d' : Array α) (a b n : Nat) : Prop :=
  d'.size = d.size ∧ ∀ k, d'[k]! = if a ≤ k ∧ k < a + n then d[b + (k - a)]! else if b ≤ k ∧ k < b + n then d[a + (k - b)]! else d[k]!
theorem swR_none {α : Type} [Inhabited α] (d : Array α) (a b : Nat) : SwR d d a b 0 :=
  ⟨rfl, fun k => by rw [if_neg (by omega), if_neg (by omega)]⟩
theorem swR_step {α : Type} [Inhabited α] {d dk : Array α} {a b n t : Nat} (hab : a + n ≤ b) (hb : b + n ≤ d.size) (ht : t < n) (h : SwR d dk a b t) : SwR d (swp dk (a + t) (b + t)) a b (t + 1) := by
  refine ⟨by rw [swp_size, h.1], fun k => ?_⟩
  rw [swp_get dk (show a + t < dk.size by rw [h.1]; omega) (show b + t < dk.size by rw [h.1]; omega) k]
  by_cases h1 : k = b + t
  · subst h1
    rw [if_pos rfl, h.2, if_neg (by omega), if_neg (by omega), if_neg (by omega), if_pos (by omega)]
    exact at_eq d (by omega)
  · rw [if_neg h1]
    by_cases h2 : k = a + t
    · subst h2
      rw [if_pos rfl, h.2, if_neg (by omega), if_neg (by omega), if_pos (by omega)]
      exact at_eq d (by omega)
    · rw [if_neg h2, h.2]
      by_cases h3 : a ≤ k ∧ k < a + t
      · rw [if_pos h3, if_pos (by omega)]
      · rw [if_neg h3, if_neg (show ¬ (a ≤ k ∧ k < a + (t + 1)) by omega)]
        by_cases h4 : b ≤ k ∧ k < b + t
        · rw [if_pos h4, if_pos (by omega)]
        · rw [if_neg h4, if_neg (by omega)]

/-- what stood from a to m stands behind what stood from m to b. -/
def Rot {α : Type} [Inhabited α] (d d' : Array α) (a m b : Nat) : Prop :=
  d'.size = d.size ∧ ∀ k, d'[k]! = if a ≤ k ∧ k < a + (b - m) then d[k + (m - a)]! else if a + (b - m) ≤ k ∧ k < b then d[k - (b - m)]! else d[k]!
theorem rot_left {α : Type} [Inhabited α] (d : Array α) (m b : Nat) : Rot d d m m b :=
  ⟨rfl, fun k => by
    by_cases h : m ≤ k ∧ k < m + (b - m)
    · rw [if_pos h]; exact at_eq d (by omega)
    · rw [if_neg h, if_neg (by omega)]⟩
theorem rot_right {α : Type} [Inhabited α] (d : Array α) (a m : Nat) : Rot d d a m m :=
  ⟨rfl, fun k => by
    rw [if_neg (by omega)]
    by_cases h : a + (m - m) ≤ k ∧ k < m
    · rw [if_pos h]; exact at_eq d (by omega)
    · rw [if_neg h]⟩
/-- both parts are of one length. -/
theorem rot_even {α : Type} [Inhabited α] {d d' : Array α} {m i : Nat} (hi : i ≤ m) (h : SwR d d' (m - i) m i) : Rot d d' (m - i) m (m + i) := by
  refine ⟨h.1, fun k => ?_⟩
  rw [h.2]
  by_cases h1 : m - i ≤ k ∧ k < m - i + i
  · rw [if_pos h1, if_pos (by omega)]; exact at_eq d (by omega)
  · rw [if_neg h1]
    by_cases h2 : m ≤ k ∧ k < m + i
    · rw [if_pos h2, if_neg (by omega), if_pos (by omega)]; exact at_eq d (by omega)
    · rw [if_neg h2, if_neg (by omega), if_neg (by omega)]
/-- the first part is longer. -/
theorem rot_more {α : Type} [Inhabited α] {d dk d' : Array α} {m i j : Nat} (hi : i ≤ m) (hij : j < i) (h : SwR d dk (m - i) m j) (h' : Rot dk d' (m - (i - j)) m (m + j)) : Rot d d' (m - i) m (m + j) := by
  refine ⟨h'.1.trans h.1, fun k => ?_⟩
  rw [h'.2]
  by_cases h1 : m - i ≤ k ∧ k < m - i + j
  · rw [if_neg (by omega), if_neg (by omega), h.2, if_pos h1, if_pos (by omega)]
    exact at_eq d (by omega)
  · by_cases h2 : m - (i - j) ≤ k ∧ k < m - (i - j) + (m + j - m)
    · rw [if_pos h2, h.2]
      rw [if_neg (show ¬ (m - i ≤ k ∧ k < m - i + (m + j - m)) by omega), if_pos (show m - i + (m + j - m) ≤ k ∧ k < m + j by omega)]
      by_cases h5 : m - i ≤ k + (m - (m - (i - j))) ∧ k + (m - (m - (i - j))) < m - i + j
      · omega
      · rw [if_neg h5, if_pos (by omega)]
        exact at_eq d (by omega)
    · rw [if_neg h2]
      by_cases h3 : m - (i - j) + (m + j - m) ≤ k ∧ k < m + j
      · rw [if_pos h3, h.2, if_neg (by omega), if_neg (by omega), if_neg (by omega), if_pos (by omega)]
      · rw [if_neg h3, h.2, if_neg h1, if_neg (by omega), if_neg (by omega), if_neg (by omega)]
/-- the second part is longer. -/
theorem rot_less {α : Type} [Inhabited α] {d dk d' : Array α} {m i j : Nat} (hi : i ≤ m) (hij : i < j) (h : SwR d dk (m - i) (m + j - i) i) (h' : Rot dk d' (m - i) m (m + (j - i))) : Rot d d' (m - i) m (m + j) := by
  refine ⟨h'.1.trans h.1, fun k => ?_⟩
  rw [h'.2]
  by_cases h1 : m - i ≤ k ∧ k < m - i + (m + (j - i) - m)
  · rw [if_pos h1, h.2, if_neg (by omega), if_pos (show m - i ≤ k ∧ k < m - i + (m + j - m) by omega)]
    by_cases h5 : m + j - i ≤ k + (m - (m - i)) ∧ k + (m - (m - i)) < m + j - i + i
    · omega
    · rw [if_neg h5]
  · rw [if_neg h1]
    by_cases h2 : m - i + (m + (j - i) - m) ≤ k ∧ k < m + (j - i)
    · rw [if_pos h2, h.2, if_pos (by omega), if_pos (by omega)]
      exact at_eq d (by omega)
    · rw [if_neg h2, h.2]
      by_cases h3 : m - i ≤ k ∧ k < m - i + i
      · omega
      · rw [if_neg h3]
        by_cases h4 : m + j - i ≤ k ∧ k < m + j - i + i
        · rw [if_pos h4, if_neg (by omega), if_pos (by omega)]
          exact at_eq d (by omega)
        · rw [if_neg h4, if_neg (by omega), if_neg (by omega)]
/-- one thing goes up, place by place. -/
theorem rot_up {α : Type} [Inhabited α] {d dk : Array α} {a k : Nat} (hk : a ≤ k) (hs : k + 1 < d.size) (h : Rot d dk a (a + 1) (k + 1)) : Rot d (swp dk k (k + 1)) a (a + 1) (k + 2) := by
  refine ⟨by rw [swp_size, h.1], fun t => ?_⟩
  rw [swp_get dk (show k < dk.size by rw [h.1]; omega) (show k + 1 < dk.size by rw [h.1]; omega) t]
  by_cases h1 : t = k + 1
  · subst h1
    rw [if_pos rfl, h.2, if_neg (by omega), if_pos (by omega), if_neg (by omega), if_pos (by omega)]
    exact at_eq d (by omega)
  · rw [if_neg h1]
    by_cases h2 : t = k
    · subst h2
      rw [if_pos rfl, h.2, if_neg (by omega), if_neg (by omega), if_pos (by omega)]
      exact at_eq d (by omega)
    · rw [if_neg h2, h.2]
      by_cases h3 : a ≤ t ∧ t < a + (k + 1 - (a + 1))
      · rw [if_pos h3, if_pos (by omega)]
      · rw [if_neg h3, if_neg (by omega), if_neg (by omega), if_neg (by omega)]
/-- one thing goes down, place by place. -/
theorem rot_down {α : Type} [Inhabited α] {d dk : Array α} {m k : Nat} (hk : k + 1 ≤ m) (hs : m < d.size) (h : Rot d dk (k + 1) m (m + 1)) : Rot d (swp dk (k + 1) k) k m (m + 1) := by
  refine ⟨by rw [swp_size, h.1], fun t => ?_⟩
  rw [swp_get dk (show k + 1 < dk.size by rw [h.1]; omega) (show k < dk.size by rw [h.1]; omega) t]
  by_cases h1 : t = k
  · subst h1
    rw [if_pos rfl, h.2, if_pos (by omega), if_pos (by omega)]
    exact at_eq d (by omega)
  · rw [if_neg h1]
    by_cases h2 : t = k + 1
    · subst h2
      rw [if_pos rfl, h.2, if_neg (by omega), if_neg (by omega), if_neg (by omega), if_pos (by omega)]
      exact at_eq d (by omega)
    · rw [if_neg h2, h.2]
      by_cases h3 : k + 1 + (m + 1 - m) ≤ t ∧ t < m + 1
      · rw [if_neg (by omega), if_pos h3, if_neg (by omega), if_pos (by omega)]
      · rw [if_neg (by omega), if_neg h3, if_neg (by omega), if_neg (by omega)]

/-- of two parts in order each, turned about: each of the four pieces is in order, and nothing behind the cut is ahead of what is before it. -/
structure Split {α : Type} [Inhabited α] (lt : α → α → Bool) (d' : Array α) (a s c e b : Nat) : Prop where
  one : SortedIn lt a s d'
  two : SortedIn lt s c d'
  three : SortedIn lt c e d'
  four : SortedIn lt e b d'
  cross : ∀ i j, a ≤ i → i < c → c ≤ j → j < b → lt d'[j]! d'[i]! = false
theorem sortedIn_le {α : Type} [Inhabited α] {lt : α → α → Bool} (hO : SWO lt) {a b : Nat} {d : Array α} (h : SortedIn lt a b d) {i j : Nat} (h1 : a ≤ i) (h2 : i ≤ j) (h3 : j < b) : lt d[j]! d[i]! = false := by
  by_cases e : i = j
  · subst e; exact hO.irrefl _
  · exact h i j h1 (by omega) h3
theorem rot_split {α : Type} [Inhabited α] {lt : α → α → Bool} (hO : SWO lt) {d d' : Array α} {a s m e b : Nat} (h1 : a ≤ s) (h2 : s ≤ m) (h3 : m ≤ e) (h4 : e ≤ b) (g1 : SortedIn lt a m d) (g2 : SortedIn lt m b d)
    (k1 : s = a ∨ e = b ∨ lt d[e]! d[s - 1]! = false) (k2 : s = m ∨ e = m ∨ lt d[e - 1]! d[s]! = true) (h : Rot d d' s m e) : Split lt d' a s (s + (e - m)) e b := by
  have zA : ∀ k, k < s → d'[k]! = d[k]! := fun k hk => by rw [h.2, if_neg (by omega), if_neg (by omega)]
  have zB : ∀ k, s ≤ k → k < s + (e - m) → d'[k]! = d[k + (m - s)]! := fun k hk hk' => by rw [h.2, if_pos ⟨hk, hk'⟩]
  have zC : ∀ k, s + (e - m) ≤ k → k < e → d'[k]! = d[k - (e - m)]! := fun k hk hk' => by rw [h.2, if_neg (by omega), if_pos ⟨hk, hk'⟩]
  have zD : ∀ k, e ≤ k → d'[k]! = d[k]! := fun k hk => by rw [h.2, if_neg (by omega), if_neg (by omega)]
  refine ⟨fun i j x y z => ?_, fun i j x y z => ?_, fun i j x y z => ?_, fun i j x y z => ?_, fun i j x y z t => ?_⟩
  · rw [zA i (by omega), zA j z]; exact g1 i j x y (by omega)
  · rw [zB i x (by omega), zB j (by omega) z]; exact g2 _ _ (by omega) (by omega) (by omega)
  · rw [zC i x (by omega), zC j (by omega) z]; exact g1 _ _ (by omega) (by omega) (by omega)
  · rw [zD i x, zD j (by omega)]; exact g2 i j (by omega) y z
  · by_cases hi : i < s
    · rw [zA i hi]
      by_cases hj : j < e
      · rw [zC j z hj]; exact sortedIn_le hO g1 x (by omega) (by omega)
      · rw [zD j (by omega)]
        rcases k1 with k1 | k1 | k1
        · omega
        · omega
        · exact hO.ntrans _ _ _ (sortedIn_le hO g2 (show m ≤ e by omega) (show e ≤ j by omega) t) (hO.ntrans _ _ _ k1 (sortedIn_le hO g1 x (show i ≤ s - 1 by omega) (by omega)))
    · rw [zB i (by omega) y]
      by_cases hj : j < e
      · rw [zC j z hj]
        rcases k2 with k2 | k2 | k2
        · omega
        · omega
        · have k3 := hO.asymmA k2
          exact hO.ntrans _ _ _ (sortedIn_le hO g1 (show a ≤ s by omega) (show s ≤ j - (e - m) by omega) (by omega)) (hO.ntrans _ _ _ k3 (sortedIn_le hO g2 (show m ≤ i + (m - s) by omega) (show i + (m - s) ≤ e - 1 by omega) (by omega)))
      · rw [zD j (by omega)]; exact sortedIn_le hO g2 (by omega) (by omega) t
theorem sortedIn_join {α : Type} [Inhabited α] {lt : α → α → Bool} {d : Array α} {a c b : Nat} (h1 : SortedIn lt a c d) (h2 : SortedIn lt c b d) (h : ∀ i j, a ≤ i → i < c → c ≤ j → j < b → lt d[j]! d[i]! = false) : SortedIn lt a b d := fun i j x y z => by
  by_cases hj : j < c
  · exact h1 i j x y hj
  · by_cases hi : i < c
    · exact h i j x hi (by omega) z
    · exact h2 i j (by omega) y z
/-- one thing alone, taken up to its place. -/
theorem one_up {α : Type} [Inhabited α] {lt : α → α → Bool} (hO : SWO lt) {d d' : Array α} {a i b : Nat} (h1 : a + 1 ≤ i) (h2 : i ≤ b) (g : SortedIn lt (a + 1) b d) (k1 : i = a + 1 ∨ lt d[i - 1]! d[a]! = true) (k2 : i = b ∨ lt d[i]! d[a]! = false) (h : Rot d d' a (a + 1) i) : SortedIn lt a b d' := by
  have S := rot_split (a := a) hO (Nat.le_refl a) (Nat.le_succ a) h1 h2 (fun i j x y z => by omega) g (.inl rfl) (by rcases k1 with k1 | k1; exact .inr (.inl k1); exact .inr (.inr k1)) h
  have hc : a + (i - (a + 1)) + 1 = i := by omega
  refine sortedIn_join (c := a + (i - (a + 1))) S.two (sortedIn_join (c := i) S.three S.four fun x y h3 h4 h5 h6 => ?_) S.cross
  obtain rfl : x = a + (i - (a + 1)) := by omega
  have zC : d'[a + (i - (a + 1))]! = d[a]! := by
    rw [h.2, if_neg (by omega), if_pos (by omega)]; exact at_eq d (by omega)
  have zD : d'[y]! = d[y]! := by rw [h.2, if_neg (by omega), if_neg (by omega)]
  rw [zC, zD]
  rcases k2 with k2 | k2
  · omega
  · exact hO.ntrans _ _ _ (sortedIn_le hO g (show a + 1 ≤ i by omega) h5 h6) k2
/-- one thing alone, taken down to its place. -/
theorem one_down {α : Type} [Inhabited α] {lt : α → α → Bool} (hO : SWO lt) {d d' : Array α} {a i m : Nat} (h1 : a ≤ i) (h2 : i ≤ m) (g : SortedIn lt a m d) (k1 : i = a ∨ lt d[m]! d[i - 1]! = false) (k2 : i = m ∨ lt d[m]! d[i]! = true) (h : Rot d d' i m (m + 1)) : SortedIn lt a (m + 1) d' := by
  have S := rot_split (b := m + 1) hO h1 h2 (Nat.le_succ m) (Nat.le_refl _) g (fun i j x y z => by omega) (.inr (.inl rfl)) (by rcases k2 with k2 | k2; exact .inl k2; exact .inr (.inr (by rw [show m.succ - 1 = m from rfl]; exact k2))) h
  have hc : i + (m + 1 - m) = i + 1 := by omega
  rw [hc] at S
  refine sortedIn_join (c := i + 1) (sortedIn_join (c := i) S.one S.two fun x y h3 h4 h5 h6 => ?_) S.three S.cross
  obtain rfl : y = i := by omega
  have zB : d'[y]! = d[m]! := by
    rw [h.2, if_pos (by omega)]; exact at_eq d (by omega)
  have zA : d'[x]! = d[x]! := by rw [h.2, if_neg (by omega), if_neg (by omega)]
  rw [zB, zA]
  rcases k1 with k1 | k1
  · omega
  · exact hO.ntrans _ _ _ k1 (sortedIn_le hO g h3 (show x ≤ y - 1 by omega) (by omega))
theorem sortedIn_behind {α : Type} [Inhabited α] {lt : α → α → Bool} {d1 d2 : Array α} {a c x y : Nat} (p : PermIn a c d1 d2) (hc : c ≤ x) (h : SortedIn lt x y d1) : SortedIn lt x y d2 := fun i j h1 h2 h3 => by
  rw [p.2.1 i (.inr (by omega)), p.2.1 j (.inr (by omega))]
  exact h i j h1 h2 h3
/-- both sides of the cut brought in order: all is. -/
theorem split_merged {α : Type} [Inhabited α] {lt : α → α → Bool} {d1 d2 d3 : Array α} {a s c e b : Nat} (hc : a ≤ c) (hb : c ≤ b) (hs : b ≤ d1.size) (S : Split lt d1 a s c e b)
    (p2 : PermIn a c d1 d2) (s2 : SortedIn lt a c d2) (p3 : PermIn c b d2 d3) (s3 : SortedIn lt c b d3) : SortedIn lt a b d3 ∧ PermIn a b d1 d3 := by
  have e3 : ∀ k, k < c → d3[k]! = d2[k]! := fun k hk => p3.2.1 k (.inl hk)
  have e2 : ∀ k, c ≤ k → d2[k]! = d1[k]! := fun k hk => p2.2.1 k (.inr hk)
  refine ⟨sortedIn_join (c := c) (fun i j x y z => by rw [e3 i (by omega), e3 j z]; exact s2 i j x y z) s3 fun i j x y z t => ?_, permIn_trans _ _ _ _ _ (permIn_mono _ _ _ _ _ _ (Nat.le_refl a) hb hs p2) (permIn_mono _ _ _ _ _ _ hc (Nat.le_refl b) (by rw [p2.1]; exact hs) p3)⟩
  rw [e3 i y]
  have q : ∀ j, c ≤ j → j < b → lt d3[j]! d2[i]! = false := permIn_all d2 d3 c b (fun v => lt v d2[i]! = false) (by rw [p2.1]; exact hs) p3 fun j hj hj' => by
    rw [e2 j hj]
    exact permIn_all d1 d2 a c (fun v => lt d1[j]! v = false) (by omega) p2 (fun i hi hi' => S.cross i j hi hi' hj hj') i x y
  exact q j z t
end Go.Proofs.Ytkcacdlgmapjjaa
