/-
  The document's answer (herepathref1): Cut: a text cut at each byte of a kind: what it returns, at every text shorter than 2 to the 32 bytes.
-/
import Derived.Test.YthehpnhjfnenoaaDoorRef6
namespace Go.Proofs.YthehpnhjfnenoaaDoor
open Go.RowKit

/-- The words of a text between bytes c; cur: what the first one has already. -/
def parts (c : UInt8) : List UInt8 → List UInt8 → List (List UInt8)
  | cur, [] => [cur]
  | cur, x :: r => if x = c then cur :: parts c [] r else parts c (cur ++ [x]) r
def strV (l : List UInt8) : Value := .string ⟨l.toArray⟩
theorem parts_length (c : UInt8) (cur r : List UInt8) : 1 ≤ (parts c cur r).length ∧ (parts c cur r).length ≤ r.length + 1 := by
  induction r generalizing cur with
  | nil => simp [parts]
  | cons x r ih =>
    unfold parts
    split
    · have := ih []; simp only [List.length_cons]; omega
    · have := ih (cur ++ [x]); simp only [List.length_cons]; omega
theorem infoS : (Tryd.prog.info? 9).map (fun i => (i.zero, i.size, i.bytes)) = some (some (.string ⟨#[]⟩), 1, 16) := by kernel_rfl
theorem extract_list (s : ByteArray) (a b : Nat) : s.extract a b = ⟨((s.data.toList.drop a).take (b - a)).toArray⟩ := by
  apply ByteArray.ext
  apply Array.toList_inj.1
  rw [Lib.extract_data]
/-- the loop's state: the words done, the word at hand from f on, k read. -/
structure CutAt (l : List UInt8) (c : UInt8) (k f : Nat) (done : List (List UInt8)) : Prop where
  hk : k ≤ l.length
  hf : f ≤ k
  hd : done.length ≤ k
  eq : parts c [] l = done ++ parts c ((l.drop f).take (k - f)) (l.drop k)
theorem cutAt_start (l : List UInt8) (c : UInt8) : CutAt l c 0 0 [] := ⟨by simp, by simp, by simp, by simp⟩
theorem CutAt.hit {l : List UInt8} {c : UInt8} {k f : Nat} {done : List (List UInt8)} (h : CutAt l c k f done) (hk : k < l.length) (hc : l[k] = c) : CutAt l c (k + 1) (k + 1) (done ++ [(l.drop f).take (k - f)]) := by
  refine ⟨hk, Nat.le_refl _, by have := h.hd; simp; omega, ?_⟩
  rw [h.eq, List.drop_eq_getElem_cons hk]
  show done ++ parts c _ (l[k] :: l.drop (k + 1)) = _
  conv => lhs; unfold parts
  rw [if_pos hc]
  simp
theorem CutAt.miss {l : List UInt8} {c : UInt8} {k f : Nat} {done : List (List UInt8)} (h : CutAt l c k f done) (hk : k < l.length) (hc : ¬ l[k] = c) : CutAt l c (k + 1) f done := by
  have hf := h.hf
  refine ⟨hk, by omega, by have := h.hd; omega, ?_⟩
  rw [h.eq, List.drop_eq_getElem_cons hk]
  show done ++ parts c _ (l[k] :: l.drop (k + 1)) = _
  conv => lhs; unfold parts
  rw [if_neg hc]
  congr 2
  rw [show k + 1 - f = (k - f) + 1 by omega, List.take_succ_eq_append_getElem (by rw [List.length_drop]; omega)]
  congr 2
  rw [List.getElem_drop]
  congr 1
  omega
theorem CutAt.over {l : List UInt8} {c : UInt8} {f : Nat} {done : List (List UInt8)} (h : CutAt l c l.length f done) : parts c [] l = done ++ [l.drop f] := by
  rw [h.eq, List.drop_length]
  have hf := h.hf
  simp only [parts]
  rw [List.take_of_length_le (by rw [List.length_drop]; omega)]
theorem rel_cut {B : Nat} {w wr w1 : World} {v v' : Value} {o : Obj} {done : List (List UInt8)} {x : List UInt8} (hB : B ≤ wr.heap.size)
    (hown : wr.ownsRow B 9 1 v done.length (done.map strV)) (hnx : Below B w wr)
    (hown' : w1.ownsRow B 9 1 v' (done.length + 1) (done.map strV ++ [strV x])) (hgrow : (wr.alloc o).grownBy w1 v.ownBlock) :
    w1.ownsRow B 9 1 v' (done ++ [x]).length ((done ++ [x]).map strV) ∧ Below B w w1 :=
  ⟨by simpa using hown', (hnx.alloc hB o).grown hgrow (by simp; omega) (fun j hj => (hown.lt j hj).1)⟩

set_option linter.unusedVariables false in
set_option maxRecDepth 100000 in
set_option maxHeartbeats 4000000 in
theorem rCut_any (s : ByteArray) (c : UInt8) (w : World) (hs : s.size < 4294967281) :
    Calls Tryd.prog 55 #[.string s, .int .u8 (c.toNat : Int)] w fun e w' => (∃ v, e = .returned v ∧ w'.ownsRow w.heap.size 9 1 v (parts c [] s.data.toList).length ((parts c [] s.data.toList).map strV)) ∧ Below w.heap.size w w' := by
  obtain ⟨i0, hi, hz0, hz1, hz2⟩ := info_parts infoS
  obtain ⟨B, hB⟩ : ∃ B, Hid (w.heap.size = B) := ⟨_, show _ = _ from rfl⟩
  rw [show w.heap.size = B from hB.out]
  go_enter Tryd.func55, Tryd.ntmps55
  go_wp2
  go_loopw [5, 6, 7] (fun v f i wr => ∃ (k m : Nat) (done : List (List UInt8)), i = .int .i64 k ∧ f = .int .i64 m ∧ Hid (CutAt s.data.toList c k m done) ∧ wr.ownsRow B 9 1 v done.length (done.map strV) ∧ Below B w wr) (fun _ _ i _ => s.size - (intOf i).toNat)
  case atStart => exact ⟨0, 0, [], rfl, rfl, cutAt_start _ _, World.ownsRow_nil _ _ _ _, Below.refl _ _⟩
  case round =>
    obtain ⟨k, m, done, rfl, rfl, HC, hown, hnx⟩ := hrel
    have hkl : k ≤ s.size := by have := HC.out.hk; rw [len_data] at this; exact this
    have hmk : m ≤ k := HC.out.hf
    have hdk : done.length ≤ k := HC.out.hd
    have hBw : B ≤ wr.heap.size := by rw [← hB.out]; exact hnx.size
    by_cases hlt : k < s.size
    · by_cases hc : s[k] = c
      · have hb : ((s[k].toNat : Int) == (c.toNat : Int)) = true := by rw [hc]; simp
        have HC2 : Hid (CutAt s.data.toList c (k + 1) (k + 1) (done ++ [(s.data.toList.drop m).take (k - m)])) := HC.out.hit (by rw [len_data]; exact hlt) hc
        go_wp2_with (at_builtin; refine wpList_append_own _ rfl _ _ 80 rfl B 9 i0 (.string ⟨#[]⟩) 1 16 Tryd.underlying80 hi hz0 hz1 hz2 rfl (by decide) _ _ _ rfl (hown.alloc _) ⟨wr.heap.size, 0, none⟩ 1 1 [.string (s.extract m k)] rfl rfl ?c1 ?c2 ?c3 ?c4 ?c5 ?_)
        case c1 =>
          intro j u hj
          match j, hj with
          | 0, hj => simp at hj; subst hj; simp [Addr.add]
        case c2 => intro u hu; simp at hu; subst hu; rfl
        case c3 => unfold maxLen; omega
        case c4 => omega
        case c5 => simp; omega
        intro v' w1 hown' hgrow _
        have R := rel_cut (x := (s.data.toList.drop m).take (k - m)) hBw hown hnx (by unfold strV; rw [← extract_list]; exact hown') hgrow
        clear hown' hgrow hown hnx
        go_wp2
        go_roundw
        case rel => exact ⟨k + 1, k + 1, _, by go_num, by go_num, HC2, R.1, R.2⟩
        case measure => simp [intOf]; omega
      · have hb : ((s[k].toNat : Int) == (c.toNat : Int)) = false := by
          rw [beq_eq_false_iff_ne]
          intro e
          exact hc (UInt8.toNat_inj.1 (by omega))
        have HC2 : Hid (CutAt s.data.toList c (k + 1) m done) := HC.out.miss (by rw [len_data]; exact hlt) hc
        go_wp2
        go_roundw
        case rel => exact ⟨k + 1, m, _, by go_num, rfl, HC2, hown, hnx⟩
        case measure => simp [intOf]; omega
    · have hkk : k = s.size := by omega
      have HE : Hid (parts c [] s.data.toList = done ++ [s.data.toList.drop m]) := by
        have h := HC.out
        rw [show k = s.data.toList.length by rw [len_data]; exact hkk] at h
        exact h.over
      have hx : s.extract m s.size = ⟨(s.data.toList.drop m).toArray⟩ := by
        rw [extract_list, List.take_of_length_le (by rw [List.length_drop, len_data]; omega)]
      go_wp2_with (at_builtin; refine wpList_append_own _ rfl _ _ 80 rfl B 9 i0 (.string ⟨#[]⟩) 1 16 Tryd.underlying80 hi hz0 hz1 hz2 rfl (by decide) _ _ _ rfl (hown.alloc _) ⟨wr.heap.size, 0, none⟩ 1 1 [strV (s.data.toList.drop m)] rfl rfl ?c1 ?c2 ?c3 ?c4 ?c5 ?_)
      case c1 =>
        intro j u hj
        match j, hj with
        | 0, hj => simp at hj; subst hj; simp [Addr.add, strV]
      case c2 => intro u hu; simp at hu; subst hu; rfl
      case c3 => unfold maxLen; omega
      case c4 => omega
      case c5 => simp; omega
      intro v' w1 hown' hgrow _
      have R := rel_cut (x := s.data.toList.drop m) hBw hown hnx hown' hgrow
      clear hown' hgrow hown hnx
      go_wp2
      go_ret
      refine ⟨⟨_, rfl, ?_⟩, R.2⟩
      rw [HE.out]
      exact R.1
end Go.Proofs.YthehpnhjfnenoaaDoor
