/-
  The first fault in what is told of a route: its mathematics; the document's Fine and Bare.
-/
import Derived.Test.YtkcacdlgmapjjaaAttrRef1
namespace Go.Proofs.Ytkcacdlgmapjjaa
open Go.RowKit

/-- the first number below n of which it holds, or n. -/
def firstN (bad : Nat → Bool) : Nat → Nat
  | 0 => 0
  | n + 1 => if firstN bad n < n then firstN bad n else if bad n then n else n + 1
theorem firstN_spec (bad : Nat → Bool) (n : Nat) : firstN bad n ≤ n ∧ (∀ j, j < firstN bad n → bad j = false) ∧ (firstN bad n < n → bad (firstN bad n) = true) := by
  induction n with
  | zero => exact ⟨Nat.le_refl _, fun j h => by simp [firstN] at h, fun h => by simp at h⟩
  | succ n ih =>
    obtain ⟨a, b, c⟩ := ih
    unfold firstN
    by_cases h : firstN bad n < n
    · rw [if_pos h]; exact ⟨by omega, b, fun _ => c h⟩
    · rw [if_neg h]
      have e : firstN bad n = n := by omega
      rw [e] at b
      cases hb : bad n with
      | true => simp only [if_true]; exact ⟨by omega, b, fun _ => hb⟩
      | false =>
        refine ⟨by simp, fun j hj => ?_, fun h => by simp at h⟩
        have hj' : j < n + 1 := by simpa using hj
        rcases Nat.lt_or_ge j n with h | h
        · exact b j h
        · obtain rfl : j = n := by omega
          exact hb
/-- where k is reached with nothing bad before it, it is at most the first. -/
theorem firstN_step {bad : Nat → Bool} {n k : Nat} (hk : k ≤ firstN bad n) (hn : k < n) (hb : bad k = false) : k + 1 ≤ firstN bad n := by
  obtain ⟨-, -, c⟩ := firstN_spec bad n
  rcases Nat.lt_or_ge k (firstN bad n) with h | h
  · omega
  · have e : firstN bad n = k := by omega
    rw [e] at c
    rw [c hn] at hb
    cases hb
theorem firstN_here {bad : Nat → Bool} {n k : Nat} (hk : k ≤ firstN bad n) (hb : bad k = true) : firstN bad n = k := by
  obtain ⟨-, b, -⟩ := firstN_spec bad n
  rcases Nat.lt_or_ge k (firstN bad n) with h | h
  · rw [b k h] at hb; cases hb
  · omega
theorem firstN_end {bad : Nat → Bool} {n : Nat} (hk : n ≤ firstN bad n) : firstN bad n = n := by
  have := (firstN_spec bad n).1; omega

def outB (x hi : Int) : Bool := decide (x < 1) || decide (hi < x)
def badP (P : List Int) (j : Nat) : Bool := outB (P.getD j 0) 1000
def badT (T : List Int) (j : Nat) : Bool := outB (T.getD j 0) 9999 || (decide (0 < j) && decide (T.getD j 0 ≤ T.getD (j - 1) 0))
def fullA (A : At) : Bool := decide (12 < A.path.length) || decide (8 < A.tags.length)
def numsA (A : At) : Bool := (decide (A.pref < 0) || decide (1000 < A.pref) || decide (A.med < 0) || decide (1000 < A.med)) || (decide (A.org < 0) || decide (2 < A.org))
/-- the number and the place of the first fault; (0, -1) where there is none. -/
def faultA (A : At) : Int × Int :=
  if fullA A then (7, -1)
  else if firstN (badP A.path) A.path.length < A.path.length then (2, firstN (badP A.path) A.path.length)
  else if numsA A then (2, -1)
  else if firstN (badT A.tags) A.tags.length < A.tags.length then
    (if outB (A.tags.getD (firstN (badT A.tags) A.tags.length) 0) 9999 then (2, firstN (badT A.tags) A.tags.length) else (8, firstN (badT A.tags) A.tags.length))
  else (0, -1)

theorem below_boxA (w : World) (x y u v : Value) (t : TypeId) : Below w.heap.size w (((w.alloc (.cells #[x, y] t)).setCell ⟨w.heap.size, 0, none⟩ u).setCell ⟨w.heap.size, 1, none⟩ v) :=
  ((below_alloc w _).setCell (Nat.le_refl _) _).setCell (Nat.le_refl _) _
end Go.Proofs.Ytkcacdlgmapjjaa
