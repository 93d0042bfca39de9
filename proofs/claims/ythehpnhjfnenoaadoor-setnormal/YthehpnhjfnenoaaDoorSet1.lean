/-
  Package set's joined: the loop, in plain words.
-/
import Derived.Test.YthehpnhjfnenoaaDoorPairRow
import Derived.Test.YthehpnhjfnenoaaDoorSetMath2
namespace Go.Proofs.YthehpnhjfnenoaaDoor
open Go.RowKit

/-- the loop of joined: k read, O out. -/
def JoinAt (s : List (Int × Int)) (k : Nat) (O : List (Int × Int)) : Prop :=
  k ≤ s.length ∧ O.length ≤ k ∧ ((k = 0 ∧ O = []) ∨ (1 ≤ k ∧ ∃ D c, O = D ++ [c] ∧ joinS s = D ++ joinG c (s.drop k)))
theorem joinAt_first {s : List (Int × Int)} (h : 0 < s.length) : JoinAt s 1 ([] ++ [s[0]]) := by
  refine ⟨h, by simp, .inr ⟨Nat.le_refl _, [], s[0], by simp, ?_⟩⟩
  cases s with
  | nil => simp at h
  | cons x r => simp [joinS]
theorem joinAt_in {s D : List (Int × Int)} {c : Int × Int} {k : Nat} (h1 : 1 ≤ k) (hk : k < s.length) (hl : (D ++ [c]).length ≤ k) (h : joinS s = D ++ joinG c (s.drop k)) (hle : s[k].1 ≤ c.2) : JoinAt s (k + 1) (D ++ [(c.1, max c.2 s[k].2)]) := by
  refine ⟨hk, by simp at hl ⊢; omega, .inr ⟨by omega, D, _, rfl, ?_⟩⟩
  rw [h, List.drop_eq_getElem_cons hk]
  congr 1
  show joinG c (s[k] :: s.drop (k + 1)) = _
  conv => lhs; unfold joinG
  rw [if_pos hle]
theorem joinAt_out {s D : List (Int × Int)} {c : Int × Int} {k : Nat} (h1 : 1 ≤ k) (hk : k < s.length) (hl : (D ++ [c]).length ≤ k) (h : joinS s = D ++ joinG c (s.drop k)) (hgt : ¬ s[k].1 ≤ c.2) : JoinAt s (k + 1) ((D ++ [c]) ++ [s[k]]) := by
  refine ⟨hk, by simp at hl ⊢; omega, .inr ⟨by omega, D ++ [c], _, rfl, ?_⟩⟩
  rw [h, List.drop_eq_getElem_cons hk]
  show D ++ joinG c (s[k] :: s.drop (k + 1)) = _
  conv => lhs; unfold joinG
  rw [if_neg hgt]
  simp
theorem joinAt_over {s O : List (Int × Int)} {k : Nat} (h : JoinAt s k O) (hk : ¬ k < s.length) : O = joinS s := by
  obtain ⟨a, b, h | ⟨h1, D, c, e, h⟩⟩ := h
  · have : s = [] := List.eq_nil_of_length_eq_zero (by omega)
    subst this
    simp [h.2, joinS]
  · rw [e, h, List.drop_of_length_le (by omega)]
    rfl
theorem infoSpan : (Tryd.prog.info? 93).map (fun i => (i.zero, i.size, i.bytes)) = some (some (.agg #[.int .i64 0, .int .i64 0]), 2, 16) := by kernel_rfl
end Go.Proofs.YthehpnhjfnenoaaDoor
