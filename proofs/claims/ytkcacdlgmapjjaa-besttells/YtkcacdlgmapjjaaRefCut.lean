/-
  The document's answer (herepathref1): Cut: a text cut at each byte of a kind: what it returns, at every text shorter than 2 to the 32 bytes.
-/
import Derived.Test.YtkcacdlgmapjjaaRef6
namespace Go.Proofs.Ytkcacdlgmapjjaa
open Go.RowKit

/-- The words of a text between bytes c; cur: what the first one has already. -/
def parts (c : UInt8) : List UInt8 → List UInt8 → List (List UInt8)
  | cur, [] => [cur]
  | cur, x :: r => if x = c then cur :: parts c [] r else parts c (cur ++ [x]) r
def strV (l : List UInt8) : Value := .string ⟨l.toArray⟩
theorem parts_length (c : UInt8) (cur r : List UInt8) : 1 ≤ (parts c cur r).length ∧ (parts c cur r).length ≤ r.length + 1 := by
  induction r generalizing cur with
  | nil => simp [parts]
  | cons x r ih =>
    unfold parts
    split
    · have := ih []; simp only [List.length_cons]; omega
    · have := ih (cur ++ [x]); simp only [List.length_cons]; omega
theorem infoS : (Try.prog.info? 9).map (fun i => (i.zero, i.size, i.bytes)) = some (some (.string ⟨#[]⟩), 1, 16) := by kernel_rfl
theorem extract_list (s : ByteArray) (a b : Nat) : s.extract a b = ⟨((s.data.toList.drop a).take (b - a)).toArray⟩ := by
  apply ByteArray.ext
  apply Array.toList_inj.1
  rw [Lib.extract_data]
/-- the loop's state: the words done, the word at hand from f on, k read. -/
structure CutAt (l : List UInt8) (c : UInt8) (k f : Nat) (done : List (List UInt8)) : Prop where
  hk : k ≤ l.length
  hf : f ≤ k
  hd : done.length ≤ k
  eq : parts c [] l = done ++ parts c ((l.drop f).take (k - f)) (l.drop k)
theorem cutAt_start (l : List UInt8) (c : UInt8) : CutAt l c 0 0 [] := ⟨by simp, by simp, by simp, by simp⟩
theorem CutAt.hit {l : List UInt8} {c : UInt8} {k f : Nat} {done : List (List UInt8)} (h : CutAt l c k f done) (hk : k < l.length) (hc : l[k] = c) : CutAt l c (k + 1) (k + 1) (done ++ [(l.drop f).take (k - f)]) := by
  refine ⟨hk, Nat.le_refl _, by have := h.hd; simp; omega, ?_⟩
  rw [h.eq, List.drop_eq_getElem_cons hk]
  show done ++ parts c _ (l[k] :: l.drop (k + 1)) = _
  conv => lhs; unfold parts
  rw [if_pos hc]
  simp
theorem CutAt.miss {l : List UInt8} {c : UInt8} {k f : Nat} {done : List (List UInt8)} (h : CutAt l c k f done) (hk : k < l.length) (hc : ¬ l[k] = c) : CutAt l c (k + 1) f done := by
  have hf := h.hf
  refine ⟨hk, by omega, by have := h.hd; omega, ?_⟩
  rw [h.eq, List.drop_eq_getElem_cons hk]
  show done ++ parts c _ (l[k] :: l.drop (k + 1)) = _
  conv => lhs; unfold parts
  rw [if_neg hc]
  congr 2
  rw [show k + 1 - f = (k - f) + 1 by omega, List.take_succ_eq_append_getElem (by rw [List.length_drop]; omega)]
  congr 2
  rw [List.getElem_drop]
  congr 1
  omega
theorem CutAt.over {l : List UInt8} {c : UInt8} {f : Nat} {done : List (List UInt8)} (h : CutAt l c l.length f done) : parts c [] l = done ++ [l.drop f] := by
  rw [h.eq, List.drop_length]
  have hf := h.hf
  simp only [parts]
  rw [List.take_of_length_le (by rw [List.length_drop]; omega)]
theorem rel_cut {B : Nat} {w wr w1 : World} {v v' : Value} {o : Obj} {done : List (List UInt8)} {x : List UInt8} (hB : B ≤ wr.heap.size)
    (hown : wr.ownsRow B 9 1 v done.length (done.map strV)) (hnx : Below B w wr)
    (hown' : w1.ownsRow B 9 1 v' (done.length + 1) (done.map strV ++ [strV x])) (hgrow : (wr.alloc o).grownBy w1 v.ownBlock) :
    w1.ownsRow B 9 1 v' (done ++ [x]).length ((done ++ [x]).map strV) ∧ Below B w w1 :=
  ⟨by simpa using hown', (hnx.alloc hB o).grown hgrow (by simp; omega) (fun j hj => (hown.lt j hj).1)⟩

end Go.Proofs.Ytkcacdlgmapjjaa
