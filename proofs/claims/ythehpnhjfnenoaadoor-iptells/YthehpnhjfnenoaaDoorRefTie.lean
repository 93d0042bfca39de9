/-
  What ip reads and what the document's answer reads: the words between dots, and around the slash, are the same ones.
-/
import Derived.Test.YthehpnhjfnenoaaDoorRefRead
import Derived.Test.YthehpnhjfnenoaaDoorTxt
namespace Go.Proofs.YthehpnhjfnenoaaDoor
open Go.RowKit

theorem parts_miss (c : UInt8) : ∀ (cur l : List UInt8), c ∉ l → parts c cur l = [cur ++ l]
  | cur, [], _ => by simp [parts]
  | cur, x :: r, h => by
    have h1 : ¬ x = c := fun e => h (by simp [e])
    unfold parts
    rw [if_neg h1, parts_miss c (cur ++ [x]) r (fun e => h (by simp [e]))]
    simp
theorem parts_hit (c : UInt8) : ∀ (cur a b : List UInt8), c ∉ a → parts c cur (a ++ c :: b) = (cur ++ a) :: parts c [] b
  | cur, [], b, _ => by simp [parts]
  | cur, x :: r, b, h => by
    have h1 : ¬ x = c := fun e => h (by simp [e])
    show parts c cur (x :: (r ++ c :: b)) = _
    conv => lhs; unfold parts
    rw [if_neg h1, parts_hit c (cur ++ [x]) r b (fun e => h (by simp [e]))]
    simp
/-- where the byte lies, or that it doesn't. -/
theorem first_at (c : UInt8) (l : List UInt8) : c ∉ l ∨ ∃ a b, l = a ++ c :: b ∧ c ∉ a := by
  induction l with
  | nil => exact Or.inl (by simp)
  | cons x r ih =>
    by_cases h : x = c
    · exact Or.inr ⟨[], r, by simp [h], by simp⟩
    · rcases ih with h2 | ⟨a, b, rfl, h2⟩
      · exact Or.inl (by simp [Ne.symm (show x ≠ c from h), h2])
      · exact Or.inr ⟨x :: a, b, by simp, by simp [Ne.symm (show x ≠ c from h), h2]⟩
/-- the words, as many as asked at most: all words, or the last is more than one. -/
theorem split_parts : ∀ (k : Nat) (l : List UInt8), (Lib.splitB ⟨#[46]⟩ 0 k (bytesL l) = (parts 46 [] l).map bytesL ∧ (parts 46 [] l).length ≤ k + 1) ∨ ((Lib.splitB ⟨#[46]⟩ 0 k (bytesL l)).length = k + 1 ∧ k + 1 < (parts 46 [] l).length)
  | 0, l => by
    rcases first_at 46 l with h | ⟨a, b, rfl, h⟩
    · left; rw [parts_miss 46 [] l h]; simp [Lib.splitB]
    · right
      rw [parts_hit 46 [] a b h]
      have := (parts_length 46 [] b).1
      simp [Lib.splitB]; omega
  | k + 1, l => by
    rcases first_at 46 l with h | ⟨a, b, rfl, h⟩
    · left
      rw [parts_miss 46 [] l h]
      refine ⟨?_, by simp⟩
      have := splitB_last (k + 1) l h
      simpa [bytesL] using this
    · rw [parts_hit 46 [] a b h, show bytesL (a ++ 46 :: b) = ⟨(a ++ 46 :: b).toArray⟩ from rfl, splitB_hit' k a b h]
      rcases split_parts k b with ⟨e1, e2⟩ | ⟨e1, e2⟩
      · left
        refine ⟨?_, by simp; omega⟩
        show _ :: Lib.splitB _ 0 k (bytesL b) = _
        rw [e1]; simp [bytesL]
      · right
        refine ⟨?_, by simp; omega⟩
        show (_ :: Lib.splitB _ 0 k (bytesL b)).length = _
        simp [e1]
theorem rd4_eq (l : List UInt8) : rdAddr (bytesL l) = rd4 (parts 46 [] l) := by
  unfold rdAddr rd4 words
  have hsz : (bytesL l).size = l.length := by show l.toArray.size = _; simp
  have hpl := parts_length 46 [] l
  rw [hsz]
  rcases split_parts (min 5 (l.length + 1) - 1) l with ⟨e1, e2⟩ | ⟨e1, e2⟩
  · rw [e1]
    simp only [List.length_map]
  · by_cases h5 : 5 ≤ l.length + 1
    · rw [if_neg (by rw [e1]; omega), if_neg (by omega)]
    · omega
end Go.Proofs.YthehpnhjfnenoaaDoor
