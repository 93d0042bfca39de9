/-
  Package wire's linesOf: what it returns; the lines of a text that is made of lines.
-/
import Derived.Test.YtbfdgflbflajdaaGreatDoorWireTake2
namespace Go.Proofs.YtbfdgflbflajdaaGreatDoor
open Go.RowKit

def rawB (s : List UInt8) : List ByteArray := Lib.splitB ⟨#[10]⟩ 1 (Lib.countB ⟨s.toArray⟩ ⟨#[10]⟩) ⟨s.toArray⟩
def rawL (s : List UInt8) : List (List UInt8) := (rawB s).map (·.data.toList)
def linesL (s : List UInt8) : List (List UInt8) := if 1 < (rawL s).length ∧ (rawL s).getD ((rawL s).length - 1) [] = [] then (rawL s).take ((rawL s).length - 1) else rawL s
theorem rawL_len (s : List UInt8) : 1 ≤ (rawL s).length ∧ (rawL s).length ≤ s.length + 1 := by
  unfold rawL rawB
  rw [List.length_map, Lib.splitB_all ⟨#[10]⟩ (Nat.le_refl 1) 1 _ _ rfl]
  have := Lib.countB_le ⟨#[10]⟩ (Nat.le_refl 1) _ (⟨s.toArray⟩ : ByteArray) (Nat.le_refl _)
  have h2 : (ByteArray.mk s.toArray).size = s.length := by simp [ByteArray.size]
  omega
theorem rawL_size (s l : List UInt8) (h : l ∈ rawL s) : l.length ≤ s.length + 1 := by
  unfold rawL at h
  obtain ⟨x, hx, rfl⟩ := List.mem_map.1 h
  have := splitB_size _ 1 _ _ x hx
  have h2 : (ByteArray.mk s.toArray).size = s.length := by simp [ByteArray.size]
  have h3 := Lib.size_eq x
  omega
theorem linesL_len (s : List UInt8) : 1 ≤ (linesL s).length ∧ (linesL s).length ≤ s.length + 1 := by
  have := rawL_len s
  unfold linesL
  split
  · rw [List.length_take]; omega
  · exact this
theorem linesL_size (s l : List UInt8) (h : l ∈ linesL s) : l.length ≤ s.length + 1 := by
  unfold linesL at h
  split at h
  · exact rawL_size s l (List.mem_of_mem_take h)
  · exact rawL_size s l h

theorem splitB_lines : ∀ (L : List (List UInt8)), (∀ l ∈ L, (10 : UInt8) ∉ l) → ∀ k, L.length ≤ k → Lib.splitB ⟨#[10]⟩ 1 k ⟨((L.map (· ++ [10])).flatten).toArray⟩ = (L.map fun l => (⟨(l ++ [10]).toArray⟩ : ByteArray)) ++ [⟨#[]⟩]
  | [], _, k, _ => by
    have : Lib.indexB ⟨#[]⟩ ⟨#[10]⟩ = -1 := idx_none 10 [] (by simp)
    exact Lib.splitB_miss _ _ _ _ this
  | l :: L, h, k, hk => by
    obtain ⟨k, rfl⟩ : ∃ j, k = j + 1 := ⟨k - 1, by simp at hk; omega⟩
    have hl := h l (by simp)
    have e : ((l :: L).map (· ++ [10])).flatten = l ++ 10 :: (L.map (· ++ [10])).flatten := by simp
    have ih := splitB_lines L (fun x hx => h x (by simp [hx])) k (by simpa using hk)
    rw [e]
    generalize (L.map (· ++ [10])).flatten = F at ih ⊢
    have hi : Lib.indexB ⟨(l ++ 10 :: F).toArray⟩ ⟨#[10]⟩ = (l.length : Int) := idx_hit 10 l F hl
    rw [Lib.splitB_hit _ _ _ _ l.length hi]
    have e2 : (ByteArray.mk (l ++ 10 :: F).toArray).extract (l.length + (ByteArray.mk #[10]).size) (ByteArray.mk (l ++ 10 :: F).toArray).size = ⟨F.toArray⟩ := by
      apply ByteArray.ext
      simp only [ByteArray.data_extract]
      apply Array.ext'
      simp [ByteArray.size]
      exact List.take_of_length_le (by omega)
    have e3 : (ByteArray.mk (l ++ 10 :: F).toArray).extract 0 (l.length + 1) = ⟨(l ++ [10]).toArray⟩ := by
      apply ByteArray.ext
      simp only [ByteArray.data_extract]
      apply Array.ext'
      simp only [List.extract_toArray, List.extract_eq_take_drop, Nat.sub_zero, List.drop_zero]
      rw [show l ++ 10 :: F = (l ++ [10]) ++ F by simp]
      exact List.take_left' (by simp)
    rw [e2, e3, ih]
    rfl
theorem count_lines (L : List (List UInt8)) : L.length ≤ Lib.countB ⟨((L.map (· ++ [10])).flatten).toArray⟩ ⟨#[10]⟩ := by
  have e : Lib.countB ⟨((L.map (· ++ [10])).flatten).toArray⟩ ⟨#[10]⟩ = Lib.count (L.map (· ++ [10])).flatten [10] := rfl
  rw [e, Lib.count_one]
  clear e
  induction L with
  | nil => simp
  | cons l L ih =>
    simp only [List.map_cons, List.flatten_cons, List.count_append, List.length_cons]
    have : 1 ≤ List.count 10 [(10 : UInt8)] := by decide
    omega
theorem linesL_flat (L : List (List UInt8)) (h : ∀ l ∈ L, (10 : UInt8) ∉ l) (h0 : L ≠ []) : linesL (L.map (· ++ [10])).flatten = L.map (· ++ [10]) := by
  have hr : rawL (L.map (· ++ [10])).flatten = L.map (· ++ [10]) ++ [[]] := by
    unfold rawL rawB
    rw [splitB_lines L h _ (count_lines L)]
    simp [Function.comp_def]
  have hl : (L.map (· ++ [10]) ++ [([] : List UInt8)]).length = L.length + 1 := by simp
  have h1 : 0 < L.length := List.length_pos_iff.2 h0
  unfold linesL
  rw [hr, hl, if_pos ⟨by omega, by simp [List.getD]⟩]
  rw [Nat.add_sub_cancel, List.take_left' (by simp)]

/-- a slice of texts in memory. -/
def LineRow (w : World) (b : Nat) (L : List (List UInt8)) : Prop := ∀ i (h : i < L.length), w.cell? ⟨b, i, none⟩ = some (.string ⟨L[i].toArray⟩)
theorem LineRow.below {w w' : World} {b : Nat} {L : List (List UInt8)} (h : LineRow w b L) (hb : Below w.heap.size w w') : LineRow w' b L := fun i hi => cell_kept hb (h i hi)
set_option linter.unusedVariables false in
set_option maxHeartbeats 1000000 in
theorem splitAfter_any (s : List UInt8) (E : Nat → Addr) (m : Int) (w : World) (hE : WireEnv w E m) (hs : s.length ≤ 90000) :
    Calls Tryz.prog 95 #[.string ⟨s.toArray⟩, .string ⟨#[10]⟩] w fun r w' => (∃ c, r = .returned (.slice (some ⟨w.heap.size, 0, none⟩) (rawL s).length c) ∧ (rawL s).length ≤ c) ∧ LineRow w' w.heap.size (rawL s) ∧ w.heap.size < w'.heap.size ∧ Below w.heap.size w w' := by
  have h2 : (ByteArray.mk s.toArray).size = s.length := by simp [ByteArray.size]
  have hlen := Lib.splitB_all ⟨#[10]⟩ (Nat.le_refl 1) 1 _ (⟨s.toArray⟩ : ByteArray) rfl
  have hcnt := Lib.countB_le ⟨#[10]⟩ (Nat.le_refl 1) _ (⟨s.toArray⟩ : ByteArray) (Nat.le_refl _)
  have hc := Tryz.strings_genSplit ⟨s.toArray⟩ ⟨#[10]⟩ 1 (-1) (Lib.countB ⟨s.toArray⟩ ⟨#[10]⟩ + 1) m w (by omega) hE.at1.max (Nat.le_refl 1) (Nat.le_refl 1) (by decide) (by decide) (by rw [if_pos (by decide)]; omega)
  rw [Nat.add_sub_cancel, show Lib.splitB ⟨#[10]⟩ 1 (Lib.countB ⟨s.toArray⟩ ⟨#[10]⟩) ⟨s.toArray⟩ = rawB s from rfl] at hc
  rw [show Lib.splitB ⟨#[10]⟩ 1 (Lib.countB ⟨s.toArray⟩ ⟨#[10]⟩) ⟨s.toArray⟩ = rawB s from rfl] at hlen
  have hrl : (rawL s).length = (rawB s).length := by unfold rawL; simp
  obtain ⟨N, hN⟩ : ∃ N, Lib.countB ⟨s.toArray⟩ ⟨#[10]⟩ + 1 = N := ⟨_, rfl⟩
  rw [hN] at hc hlen
  obtain ⟨HC⟩ : Nonempty (Hid (Calls Tryz.prog 78 #[.string ⟨s.toArray⟩, .string ⟨#[10]⟩, .int .i64 1, .int .i64 (-1)] w fun r w' => (∃ c, r = .returned (.slice (some ⟨w.heap.size, 0, none⟩) (rawL s).length c) ∧ (rawL s).length ≤ c) ∧ LineRow w' w.heap.size (rawL s) ∧ w.heap.size < w'.heap.size ∧ Below w.heap.size w w')) := ⟨hc.mono (by
    rintro e w' ⟨rfl, rfl⟩
    refine ⟨⟨N, by rw [hrl], by omega⟩, fun i hi => ?_, by simp, below_alloc _ _⟩
    rw [World.cell?_alloc_at _ _ _ _ rfl]
    have hi' : i < (rawB s).length := by omega
    have := cellsOf_get (N := N) hi'
    rw [this]
    have h9 : (rawL s)[i] = (rawB s)[i].data.toList := by
      show ((rawB s).map (fun x : ByteArray => x.data.toList))[i]'(by simpa using hi') = _
      rw [List.getElem_map]
    rw [h9, Array.toArray_toList])⟩
  clear hc hE hlen hcnt hrl
  go_enter Tryz.func95, Tryz.ntmps95
  go_wp2_with fail
  refine HC.out.mono ?_
  rintro e w1 ⟨⟨c, rfl, hcc⟩, h3, h4, h5⟩
  obtain ⟨HR⟩ : Nonempty (Hid (_ ∧ _ ∧ _ ∧ _)) := ⟨⟨hcc, h3, h4, h5⟩⟩
  clear hcc h3 h4 h5
  go_wp2_with fail
  go_ret
  exact ⟨⟨c, rfl, HR.out.1⟩, HR.out.2.1, HR.out.2.2.1, HR.out.2.2.2⟩
set_option linter.unusedVariables false in
set_option maxHeartbeats 2000000 in
theorem linesOf_any (s : List UInt8) (E : Nat → Addr) (m : Int) (w : World) (hE : WireEnv w E m) (hs : s.length ≤ 90000) :
    Calls Tryz.prog 64 #[.string ⟨s.toArray⟩] w fun r w' => (∃ c, r = .returned (.slice (some ⟨w.heap.size, 0, none⟩) (linesL s).length c)) ∧ LineRow w' w.heap.size (linesL s) ∧ w.heap.size < w'.heap.size ∧ Below w.heap.size w w' := by
  obtain ⟨HC⟩ : Nonempty (Hid (Calls _ _ _ _ _)) := ⟨splitAfter_any s E m w hE hs⟩
  obtain ⟨L, hL⟩ : ∃ L, Hid (rawL s = L) := ⟨_, show _ = _ from rfl⟩
  have hll := rawL_len s
  have HD : Hid (linesL s = if 1 < L.length ∧ L.getD (L.length - 1) [] = [] then L.take (L.length - 1) else L) := by
    show _ = _
    unfold linesL
    rw [hL.out]
  rw [show rawL s = L from hL.out] at HC hll
  obtain ⟨M, hM⟩ : ∃ M, Hid (linesL s = M) := ⟨_, show _ = _ from rfl⟩
  rw [show linesL s = M from hM.out] at HD ⊢
  clear hE
  obtain ⟨n, hn⟩ : ∃ n, L.length = n + 1 := ⟨L.length - 1, by omega⟩
  have hw1 : IntKind.i64.wrap (((n + 1 : Nat) : Int) - 1) = (n : Int) := by rw [IntKind.wrap_i64]; omega
  obtain ⟨HN⟩ : Nonempty (Hid (L.length = n + 1)) := ⟨hn⟩
  rw [hn] at HC HD
  have hn9 : n ≤ 100000 := by omega
  clear hll hn
  obtain ⟨B, hB⟩ : ∃ B, Hid (w.heap.size = B) := ⟨_, show _ = _ from rfl⟩
  rw [show w.heap.size = B from hB.out] at HC ⊢
  by_cases h0 : n = 0
  · subst h0
    have HM : Hid (M = L) := by
      show _ = _
      rw [HD.out, if_neg (by omega)]
    clear HD
    go_enter Tryz.func64, Tryz.ntmps64
    go_wp2_with fail
    refine HC.out.mono ?_
    rintro e w1 ⟨⟨c, rfl, hcc⟩, h3, h4, h5⟩
    obtain ⟨HR⟩ : Nonempty (Hid (_ ∧ _ ∧ _)) := ⟨⟨h3, h4, h5⟩⟩
    clear h3 h4 h5
    go_wp2_with fail
    go_ret
    rw [HM.out, HN.out]
    exact ⟨⟨c, rfl⟩, HR.out.1, HR.out.2.1, HR.out.2.2⟩
  · have hpos : decide (0 < (n : Int)) = true := decide_eq_true (by omega)
    have hnn : n < L.length := by rw [HN.out]; omega
    have hgd : L.getD n [] = L[n] := by simp [List.getD, hnn]
    by_cases he : L[n] = []
    · have HM : Hid (M = L.take n ∧ (L.take n).length = n) := by
        refine ⟨?_, by rw [List.length_take]; omega⟩
        rw [HD.out, if_pos ⟨by omega, by rw [Nat.add_sub_cancel, hgd, he]⟩, Nat.add_sub_cancel]
      clear HD
      go_enter Tryz.func64, Tryz.ntmps64
      go_wp2_with fail
      refine HC.out.mono ?_
      rintro e w1 ⟨⟨c, rfl, hcc⟩, h3, h4, h5⟩
      obtain ⟨HR⟩ : Nonempty (Hid (LineRow w1 B L ∧ _ ∧ _)) := ⟨⟨h3, h4, h5⟩⟩
      have c0 := HR.out.1 n hnn
      rw [he] at c0
      have hnc : n ≤ c := by omega
      clear h3 h4 h5 he hgd hnn
      go_wp2_with fail
      go_ret
      rw [HM.out.1]
      refine ⟨⟨c, by rw [HM.out.2]; rfl⟩, fun i hi => ?_, HR.out.2.1, HR.out.2.2⟩
      rw [List.getElem_take]
      exact HR.out.1 i (by rw [HM.out.2] at hi; rw [HN.out]; omega)
    · have HM : Hid (M = L) := by
        show _ = _
        rw [HD.out, if_neg (by rw [Nat.add_sub_cancel, hgd]; exact fun h => he h.2)]
      clear HD
      obtain ⟨x, hx⟩ : ∃ x, Hid (L[n] = x) := ⟨_, show _ = _ from rfl⟩
      rw [show L[n] = x from hx.out] at he
      obtain ⟨a1, a2, a3⟩ := str_eqs he
      go_enter Tryz.func64, Tryz.ntmps64
      go_wp2_with fail
      refine HC.out.mono ?_
      rintro e w1 ⟨⟨c, rfl, hcc⟩, h3, h4, h5⟩
      obtain ⟨HR⟩ : Nonempty (Hid (LineRow w1 B L ∧ _ ∧ _)) := ⟨⟨h3, h4, h5⟩⟩
      have c0 := HR.out.1 n hnn
      rw [show L[n] = x from hx.out] at c0
      clear h3 h4 h5 hgd
      go_wp2_with fail
      go_ret
      rw [HM.out, HN.out]
      exact ⟨⟨c, rfl⟩, HR.out.1, HR.out.2.1, HR.out.2.2⟩
end Go.Proofs.YtbfdgflbflajdaaGreatDoor
