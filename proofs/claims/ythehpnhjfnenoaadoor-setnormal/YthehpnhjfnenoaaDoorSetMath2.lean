/-
  Sets of addresses as spans: plain mathematics: how many addresses they have; the edges of two sets; what is between two edges is alike.
-/
import Derived.Test.YthehpnhjfnenoaaDoorSetMath
namespace Go.Proofs.YthehpnhjfnenoaaDoor
open Go

/-- how many numbers from 0 to below N are so. -/
def cnt (P : Int → Bool) : Nat → Nat
  | 0 => 0
  | k + 1 => cnt P k + (P (k : Int)).toNat
theorem cnt_congr {P Q : Int → Bool} (h : ∀ x, P x = Q x) (N : Nat) : cnt P N = cnt Q N := by
  rw [show P = Q from funext h]
theorem cnt_or {P Q R : Int → Bool} (h : ∀ x, P x = (Q x || R x)) (hd : ∀ x, ¬ (Q x = true ∧ R x = true)) (N : Nat) : cnt P N = cnt Q N + cnt R N := by
  induction N with
  | zero => rfl
  | succ k ih =>
    simp only [cnt]
    rw [ih, h]
    have := hd (k : Int)
    cases hq : Q (k : Int) <;> cases hr : R (k : Int) <;> simp [hq, hr] at this ⊢ <;> omega
theorem cnt_none {P : Int → Bool} (h : ∀ x, P x = false) (N : Nat) : cnt P N = 0 := by
  induction N with
  | zero => rfl
  | succ k ih => simp [cnt, ih, h]
theorem cnt_span (a b : Int) (h0 : 0 ≤ a) (h1 : a ≤ b) (N : Nat) : (cnt (fun x => decide (a ≤ x ∧ x < b)) N : Int) = min b N - min a N := by
  induction N with
  | zero => simp [cnt]; omega
  | succ k ih =>
    simp only [cnt]
    by_cases h : a ≤ (k : Int) ∧ (k : Int) < b
    · rw [decide_eq_true h]; simp only [Bool.toNat_true]; omega
    · rw [decide_eq_false h]; simp only [Bool.toNat_false]; omega

def inSB (S : List (Int × Int)) (x : Int) : Bool := S.any fun s => decide (s.1 ≤ x ∧ x < s.2)
theorem inSB_iff (S : List (Int × Int)) (x : Int) : inSB S x = true ↔ inS S x := by simp [inSB, inS]
theorem inSB_cons (s : Int × Int) (S : List (Int × Int)) (x : Int) : inSB (s :: S) x = (decide (s.1 ≤ x ∧ x < s.2) || inSB S x) := by simp [inSB]
def inPB (L : List (Int × Int)) (x : Int) : Bool := L.any fun p => decide (p.1 ≤ x ∧ x < p.1 + pw p.2)
theorem inPB_iff (S : List (Int × Int)) (x : Int) : inPB S x = true ↔ inP S x := by simp [inPB, inP]
theorem bool_of_iff {a b : Bool} {p q : Prop} (ha : a = true ↔ p) (hb : b = true ↔ q) (h : p ↔ q) : a = b := by
  rw [Bool.eq_iff_iff, ha, hb]; exact h
/-- spans that do not overlap, rising. -/
def Dis : List (Int × Int) → Prop
  | [] => True
  | s :: r => s.1 ≤ s.2 ∧ (∀ t ∈ r, s.2 ≤ t.1) ∧ Dis r
def sumS : List (Int × Int) → Int
  | [] => 0
  | s :: r => (s.2 - s.1) + sumS r
def sumP : List (Int × Int) → Int
  | [] => 0
  | p :: r => pw p.2 + sumP r
theorem Sep.dis {S : List (Int × Int)} (h : Sep S) : Dis S := by
  induction S with
  | nil => trivial
  | cons s r ih => exact ⟨by have := h.1; omega, fun t ht => by have := h.2.1 t ht; omega, ih h.2.2⟩
theorem cnt_dis (N : Nat) (S : List (Int × Int)) (h : Dis S) (hb : ∀ s ∈ S, 0 ≤ s.1 ∧ s.2 ≤ N) : (cnt (inSB S) N : Int) = sumS S := by
  induction S with
  | nil => rw [cnt_none (by intro x; rfl)]; rfl
  | cons s r ih =>
    rw [cnt_or (Q := fun x => decide (s.1 ≤ x ∧ x < s.2)) (R := inSB r) (fun x => inSB_cons s r x) ?_ N]
    · have hs := hb s (by simp)
      have e := cnt_span s.1 s.2 hs.1 h.1 N
      have e2 := ih h.2.2 (fun t ht => hb t (by simp [ht]))
      have := h.1
      simp only [sumS]
      omega
    · rintro x ⟨h1, h2⟩
      rw [inSB_iff] at h2
      obtain ⟨t, ht, h3⟩ := h2
      have := h.2.1 t ht
      simp only [decide_eq_true_eq] at h1
      omega
def spanOf (p : Int × Int) : Int × Int := (p.1, p.1 + pw p.2)
theorem inPB_spans (L : List (Int × Int)) (x : Int) : inPB L x = inSB (L.map spanOf) x := by
  induction L with
  | nil => rfl
  | cons p r ih => rw [List.map_cons, inSB_cons, ← ih]; rfl
theorem inP_spans (L : List (Int × Int)) (x : Int) : inP L x ↔ inS (L.map spanOf) x := by rw [← inPB_iff, ← inSB_iff, inPB_spans]
theorem sumP_spans (L : List (Int × Int)) : sumP L = sumS (L.map spanOf) := by
  induction L with
  | nil => rfl
  | cons p r ih => simp only [sumP, List.map_cons, sumS, spanOf, ih]; omega
theorem NP.dis {L : List (Int × Int)} (h : NP L) : Dis (L.map spanOf) := by
  induction L with
  | nil => trivial
  | cons p r ih =>
    refine ⟨?_, ?_, ih h.2.2.2⟩
    · have := pw_pos p.2; simp only [spanOf]; omega
    · intro t ht
      obtain ⟨q, hq, rfl⟩ := List.mem_map.1 ht
      exact h.2.1 q hq
/-- a right prefix ends by the last address. -/
theorem rt_end {a n : Int} (h : rt a n = true) : a + pw n ≤ 4294967296 := by
  obtain ⟨h1, h2, h3⟩ := (rt_iff a n).1 h
  obtain ⟨k, -, hk⟩ := pw_dvd 0 n h2.1 h2.2
  rw [pw_0] at hk
  have e := Int.mul_ediv_add_emod a (pw n)
  rw [h3] at e
  have hp := pw_pos n
  have e2 : pw n * (a / pw n) < pw n * k := by rw [Int.mul_comm (pw n) k]; omega
  have e3 := Int.lt_of_mul_lt_mul_left e2 (by omega)
  have e4 : pw n * (a / pw n + 1) ≤ pw n * k := Int.mul_le_mul_of_nonneg_left (by omega) (by omega)
  rw [Int.mul_add, Int.mul_comm (pw n) k] at e4
  omega
theorem cnt_np (N : Nat) (hN : N = 4294967296) (L : List (Int × Int)) (h : NP L) : (cnt (inPB L) N : Int) = sumP L := by
  rw [sumP_spans, ← cnt_dis N _ h.dis ?_, cnt_congr (inPB_spans L)]
  intro s hs
  obtain ⟨p, hp, rfl⟩ := List.mem_map.1 hs
  have hr := h.right p hp
  have h1 := rt_end hr
  have h2 := ((rt_iff _ _).1 hr).1
  simp only [spanOf]
  omega

/-! ### edges -/
/-- strictly rising. -/
def Up1 : List Int → Prop
  | [] => True
  | a :: r => (∀ b ∈ r, a < b) ∧ Up1 r
/-- what is between two edges that follow each other, where the first one is so. -/
def cutsW (f : Int → Bool) : List Int → List (Int × Int)
  | [] => []
  | [_] => []
  | a :: b :: r => if f a = true then (a, b) :: cutsW f (b :: r) else cutsW f (b :: r)
theorem cutsW_facts (f : Int → Bool) (E : List Int) (hE : Up1 E) (hf : ∀ a ∈ E, ∀ z, a ≤ z → (∀ e ∈ E, e ≤ a ∨ z < e) → f z = f a) :
    Rise (cutsW f E) ∧ (∀ s ∈ cutsW f E, s.1 ∈ E ∧ s.2 ∈ E) ∧ ∀ z, inS (cutsW f E) z ↔ (∃ a ∈ E, a ≤ z) ∧ (∃ b ∈ E, z < b) ∧ f z = true := by
  induction E with
  | nil => exact ⟨trivial, by simp [cutsW], fun z => ⟨fun h => absurd h (inS_nil _), by simp⟩⟩
  | cons a E ih =>
    cases E with
    | nil =>
      refine ⟨trivial, by simp [cutsW], fun z => ⟨fun h => absurd h (inS_nil _), ?_⟩⟩
      rintro ⟨⟨x, hx, h1⟩, ⟨y, hy, h2⟩, -⟩
      simp at hx hy
      omega
    | cons b r =>
      have hab := hE.1 b (by simp)
      obtain ⟨i1, i2, i3⟩ := ih hE.2 (fun c hc z hz h => hf c (by simp at hc ⊢; exact .inr hc) z hz (fun e he => by
        rcases List.mem_cons.1 he with rfl | he
        · left; have := hE.1 c hc; omega
        · exact h e he))
      have low : ∀ s ∈ cutsW f (b :: r), a ≤ s.1 := fun s hs => by have := hE.1 _ (i2 s hs).1; omega
      have alike : ∀ z, a ≤ z → z < b → f z = f a := fun z h1 h2 => hf a (by simp) z h1 (fun e he => by
        rcases List.mem_cons.1 he with rfl | he
        · left; omega
        · right
          rcases List.mem_cons.1 he with rfl | he
          · exact h2
          · have := hE.2.1 e he; omega)
      have key : ∀ z, ((∃ x ∈ a :: b :: r, x ≤ z) ∧ (∃ y ∈ a :: b :: r, z < y) ∧ f z = true) ↔ ((a ≤ z ∧ z < b) ∧ f a = true) ∨ ((∃ x ∈ b :: r, x ≤ z) ∧ (∃ y ∈ b :: r, z < y) ∧ f z = true) := by
        intro z
        constructor
        · rintro ⟨⟨x, hx, h1⟩, ⟨y, hy, h2⟩, h3⟩
          have hax : a ≤ z := by
            rcases List.mem_cons.1 hx with rfl | hx
            · exact h1
            · have := hE.1 x hx; omega
          by_cases hz : z < b
          · left; exact ⟨⟨hax, hz⟩, by rw [← alike z hax hz]; exact h3⟩
          · right
            refine ⟨⟨b, by simp, by omega⟩, ⟨y, ?_, h2⟩, h3⟩
            rcases List.mem_cons.1 hy with rfl | hy
            · omega
            · exact hy
        · rintro (⟨⟨h1, h2⟩, h3⟩ | ⟨⟨x, hx, h1⟩, ⟨y, hy, h2⟩, h3⟩)
          · exact ⟨⟨a, by simp, h1⟩, ⟨b, by simp, h2⟩, by rw [alike z h1 h2]; exact h3⟩
          · exact ⟨⟨x, List.mem_cons_of_mem _ hx, h1⟩, ⟨y, List.mem_cons_of_mem _ hy, h2⟩, h3⟩
      unfold cutsW
      split
      · rename_i hfa
        refine ⟨⟨hab, low, i1⟩, ?_, fun z => ?_⟩
        · intro s hs
          rcases List.mem_cons.1 hs with rfl | hs
          · simp
          · have := i2 s hs; exact ⟨List.mem_cons_of_mem _ this.1, List.mem_cons_of_mem _ this.2⟩
        · rw [inS_cons, key, i3]
          simp [hfa]
      · rename_i hfa
        refine ⟨i1, fun s hs => by have := i2 s hs; exact ⟨List.mem_cons_of_mem _ this.1, List.mem_cons_of_mem _ this.2⟩, fun z => ?_⟩
        rw [key, i3]
        simp [hfa]
/-- between edges that have all of a set's, the set is alike. -/
theorem alike_edges {X : List (Int × Int)} {E : List Int} (hX : ∀ s ∈ X, s.1 ∈ E ∧ s.2 ∈ E) (a z : Int) (hz : a ≤ z) (h : ∀ e ∈ E, e ≤ a ∨ z < e) : inSB X z = inSB X a := by
  refine bool_of_iff (inSB_iff _ _) (inSB_iff _ _) ⟨?_, ?_⟩
  · rintro ⟨s, hs, h1, h2⟩
    refine ⟨s, hs, ?_, by omega⟩
    rcases h s.1 (hX s hs).1 with h3 | h3 <;> omega
  · rintro ⟨s, hs, h1, h2⟩
    refine ⟨s, hs, by omega, ?_⟩
    rcases h s.2 (hX s hs).2 with h3 | h3 <;> omega
/-- what a question says yes to, of two sets. -/
theorem where_facts (q : Bool → Bool → Bool) (hq : q false false = false) (X Y : List (Int × Int)) (E : List Int) (hE : Up1 E) (hX : ∀ s ∈ X, s.1 ∈ E ∧ s.2 ∈ E) (hY : ∀ s ∈ Y, s.1 ∈ E ∧ s.2 ∈ E) :
    Sep (joinS (cutsW (fun a => q (inSB X a) (inSB Y a)) E)) ∧ (∀ z, inS (joinS (cutsW (fun a => q (inSB X a) (inSB Y a)) E)) z ↔ q (inSB X z) (inSB Y z) = true) := by
  obtain ⟨h1, h2, h3⟩ := cutsW_facts (fun a => q (inSB X a) (inSB Y a)) E hE (fun a _ z hz h => by rw [alike_edges hX a z hz h, alike_edges hY a z hz h])
  obtain ⟨j1, j2⟩ := joinS_sep _ h1
  refine ⟨j1, fun z => ?_⟩
  rw [j2, h3]
  constructor
  · rintro ⟨-, -, h⟩; exact h
  · intro h
    have : inS X z ∨ inS Y z := by
      cases hx : inSB X z with
      | true => exact .inl ((inSB_iff _ _).1 hx)
      | false =>
        cases hy : inSB Y z with
        | true => exact .inr ((inSB_iff _ _).1 hy)
        | false => rw [hx, hy, hq] at h; simp at h
    rcases this with ⟨s, hs, a, b⟩ | ⟨s, hs, a, b⟩
    · exact ⟨⟨_, (hX s hs).1, a⟩, ⟨_, (hX s hs).2, b⟩, h⟩
    · exact ⟨⟨_, (hY s hs).1, a⟩, ⟨_, (hY s hs).2, b⟩, h⟩
/-- spans that a list of spans lies within bound it. -/
theorem sep_bound {S : List (Int × Int)} (hS : Sep S) (h : ∀ z, inS S z → 0 ≤ z ∧ z < 4294967296) : ∀ s ∈ S, 0 ≤ s.1 ∧ s.2 ≤ 4294967296 := by
  intro s hs
  have hlt := hS.mem s hs
  have h1 := h s.1 ⟨s, hs, by omega, by omega⟩
  have h2 := h (s.2 - 1) ⟨s, hs, by omega, by omega⟩
  omega

/-! ### the spans that are over -/
theorem drop_over {X : List (Int × Int)} {j : Nat} {a : Int} (hF : ∀ s ∈ X.take j, s.2 ≤ a) (hj : X.length ≤ j) : inSB X a = false := by
  rw [List.take_of_length_le hj] at hF
  rw [Bool.eq_false_iff]
  intro h
  obtain ⟨s, hs, h1, h2⟩ := (inSB_iff _ _).1 h
  have := hF s hs
  omega
theorem sep_drop {X : List (Int × Int)} (h : Sep X) (j : Nat) : Sep (X.drop j) := by
  induction X generalizing j with
  | nil => simpa using h
  | cons s r ih =>
    cases j with
    | zero => exact h
    | succ j => exact ih h.2.2 j
theorem drop_in {X : List (Int × Int)} (hX : Sep X) {j : Nat} {a : Int} (hF : ∀ s ∈ X.take j, s.2 ≤ a) (hj : j < X.length) (ha : a < X[j].2) : inSB X a = decide (X[j].1 ≤ a) := by
  have hd := sep_drop hX j
  rw [List.drop_eq_getElem_cons hj] at hd
  refine bool_of_iff (inSB_iff _ _) decide_eq_true_iff ⟨?_, fun h => ⟨X[j], List.getElem_mem hj, h, ha⟩⟩
  rintro ⟨s, hs, h1, h2⟩
  rw [← List.take_append_drop j X] at hs
  rcases List.mem_append.1 hs with hs | hs
  · have := hF s hs; omega
  · rw [List.drop_eq_getElem_cons hj] at hs
    rcases List.mem_cons.1 hs with rfl | hs
    · exact h1
    · have := hd.2.1 s hs; have := hd.1; omega
theorem over_step {X : List (Int × Int)} {j : Nat} {a : Int} (hF : ∀ s ∈ X.take j, s.2 ≤ a) (hj : j < X.length) (ha : X[j].2 ≤ a) : ∀ s ∈ X.take (j + 1), s.2 ≤ a := by
  intro s hs
  rw [List.take_succ_eq_append_getElem hj] at hs
  rcases List.mem_append.1 hs with hs | hs
  · exact hF s hs
  · simp at hs; subst hs; exact ha
end Go.Proofs.YthehpnhjfnenoaaDoor
