/-
  Texts cut at a byte, as package strings cuts them: the document's words. Plain mathematics.
-/
import Derived.Test.YtbfdgflbflajdaaGreatDoorGN
import Derived.Lib.SplitLaws
import Derived.Lib.CountLaws
namespace Go.Proofs.YtbfdgflbflajdaaGreatDoor
open Go.RowKit

def aBytesL (l : List UInt8) : ByteArray := ⟨l.toArray⟩
theorem aIdx_hit (c : UInt8) : ∀ (x r : List UInt8), c ∉ x → Lib.index (x ++ c :: r) [c] = x.length
  | [], r, _ => by simp [Lib.index]
  | b :: x, r, h => by
    have hb : ¬ c = b := fun e => h (by simp [e])
    have ih := aIdx_hit c x r (fun hm => h (List.mem_cons_of_mem _ hm))
    simp only [List.cons_append, Lib.index, ih]
    have h1 : ([c] : List UInt8).isPrefixOf (b :: (x ++ c :: r)) = false := by simp [List.isPrefixOf, hb]
    rw [h1]
    have h2 : ((x.length : Int) == -1) = false := by rw [beq_eq_false_iff_ne]; omega
    rw [h2]
    simp
theorem aIdx_none (c : UInt8) : ∀ (x : List UInt8), c ∉ x → Lib.index x [c] = -1
  | [], _ => by simp [Lib.index]
  | b :: x, h => by
    have hb : ¬ c = b := fun e => h (by simp [e])
    have ih := aIdx_none c x (fun hm => h (List.mem_cons_of_mem _ hm))
    simp only [Lib.index, ih]
    have h1 : ([c] : List UInt8).isPrefixOf (b :: x) = false := by simp [List.isPrefixOf, hb]
    rw [h1]
    simp
theorem aFirst_at (c : UInt8) (l : List UInt8) : c ∉ l ∨ ∃ a b, l = a ++ c :: b ∧ c ∉ a := by
  induction l with
  | nil => exact Or.inl (by simp)
  | cons x r ih =>
    by_cases h : x = c
    · exact Or.inr ⟨[], r, by simp [h], by simp⟩
    · rcases ih with h2 | ⟨a, b, rfl, h2⟩
      · exact Or.inl (by simp [Ne.symm (show x ≠ c from h), h2])
      · exact Or.inr ⟨x :: a, b, by simp, by simp [Ne.symm (show x ≠ c from h), h2]⟩
theorem behind_hit (c : UInt8) (x r : List UInt8) : (aBytesL (x ++ c :: r)).extract (x.length + (⟨#[c]⟩ : ByteArray).size) (aBytesL (x ++ c :: r)).size = aBytesL r := by
  apply ByteArray.ext
  simp only [ByteArray.data_extract]
  apply Array.ext'
  simp [ByteArray.size, aBytesL]
  exact List.take_of_length_le (by omega)
theorem aSplitB_hit' (c : UInt8) (k : Nat) (x r : List UInt8) (h : c ∉ x) : Lib.splitB ⟨#[c]⟩ 0 (k + 1) (aBytesL (x ++ c :: r)) = aBytesL x :: Lib.splitB ⟨#[c]⟩ 0 k (aBytesL r) := by
  have hi : Lib.indexB (aBytesL (x ++ c :: r)) ⟨#[c]⟩ = (x.length : Int) := aIdx_hit c x r h
  rw [Lib.splitB_hit _ _ _ _ x.length hi, behind_hit]
  congr 1
  apply ByteArray.ext; simp [ByteArray.data_extract, aBytesL]
theorem aSplitB_last (c : UInt8) (k : Nat) (x : List UInt8) (h : c ∉ x) : Lib.splitB ⟨#[c]⟩ 0 k (aBytesL x) = [aBytesL x] :=
  Lib.splitB_miss _ _ _ _ (aIdx_none c x h)
theorem aSplit_parts (c : UInt8) : ∀ (k : Nat) (l : List UInt8), (Lib.splitB ⟨#[c]⟩ 0 k (aBytesL l) = (parts c [] l).map aBytesL ∧ (parts c [] l).length ≤ k + 1) ∨ ((Lib.splitB ⟨#[c]⟩ 0 k (aBytesL l)).length = k + 1 ∧ k + 1 < (parts c [] l).length)
  | 0, l => by
    rcases aFirst_at c l with h | ⟨a, b, rfl, h⟩
    · left; rw [aParts_miss c [] l h]; simp [Lib.splitB]
    · right
      rw [aParts_hit c [] a b h]
      have := (parts_length c [] b).1
      simp [Lib.splitB]; omega
  | k + 1, l => by
    rcases aFirst_at c l with h | ⟨a, b, rfl, h⟩
    · left
      rw [aParts_miss c [] l h]
      refine ⟨?_, by simp⟩
      have := aSplitB_last c (k + 1) l h
      simpa using this
    · rw [aParts_hit c [] a b h, aSplitB_hit' c k a b h]
      rcases aSplit_parts c k b with ⟨e1, e2⟩ | ⟨e1, e2⟩
      · left
        refine ⟨?_, by simp; omega⟩
        rw [e1]; simp
      · right
        refine ⟨?_, by simp; omega⟩
        simp [e1]
theorem count_parts (c : UInt8) : ∀ (n : Nat) (l : List UInt8), l.length ≤ n → Lib.countB (aBytesL l) ⟨#[c]⟩ + 1 = (parts c [] l).length
  | n, l, hn => by
    rcases aFirst_at c l with h | ⟨a, b, rfl, h⟩
    · rw [aParts_miss c [] l h, Lib.countB_miss _ _ (aIdx_none c l h)]; simp
    · cases n with
      | zero => simp at hn
      | succ n =>
        have hi : Lib.indexB (aBytesL (a ++ c :: b)) ⟨#[c]⟩ = (a.length : Int) := aIdx_hit c a b h
        rw [aParts_hit c [] a b h, Lib.countB_hit (aBytesL (a ++ c :: b)) ⟨#[c]⟩ a.length (Nat.le_refl 1) hi, behind_hit]
        have := count_parts c n b (by simp at hn; omega)
        simp; omega
/-- all words. -/
theorem split_all (c : UInt8) (l : List UInt8) : Lib.splitB ⟨#[c]⟩ 0 (Lib.countB (aBytesL l) ⟨#[c]⟩) (aBytesL l) = (parts c [] l).map aBytesL ∧ Lib.countB (aBytesL l) ⟨#[c]⟩ + 1 = (parts c [] l).length := by
  have h := count_parts c l.length l (Nat.le_refl _)
  refine ⟨?_, h⟩
  rcases aSplit_parts c (Lib.countB (aBytesL l) ⟨#[c]⟩) l with ⟨e, -⟩ | ⟨-, e⟩
  · exact e
  · omega
/-- six words at most: all of them, or not five. -/
theorem split_six (c : UInt8) (l : List UInt8) : (Lib.splitB ⟨#[c]⟩ 0 (min 6 (l.length + 1) - 1) (aBytesL l) = (parts c [] l).map aBytesL) ∨ ((Lib.splitB ⟨#[c]⟩ 0 (min 6 (l.length + 1) - 1) (aBytesL l)).length ≠ 5 ∧ (parts c [] l).length ≠ 5) := by
  rcases aSplit_parts c (min 6 (l.length + 1) - 1) l with ⟨e, -⟩ | ⟨e1, e2⟩
  · exact .inl e
  · have := (parts_length c [] l).2
    right
    rw [e1]
    omega
theorem words_five (L : List (List UInt8)) (h : L.length ≠ 5) : wordsOk L = false := by
  match L, h with
  | [], _ => rfl
  | [_], _ => rfl
  | [_, _], _ => rfl
  | [_, _, _], _ => rfl
  | [_, _, _, _], _ => rfl
  | [_, _, _, _, _], h => exact absurd rfl h
  | _ :: _ :: _ :: _ :: _ :: _ :: _, _ => rfl
theorem five_words (L : List (List UInt8)) (h : L.length = 5) : ∃ a b c d e, L = [a, b, c, d, e] := by
  match L, h with
  | [a, b, c, d, e], _ => exact ⟨a, b, c, d, e, rfl⟩
end Go.Proofs.YtbfdgflbflajdaaGreatDoor
