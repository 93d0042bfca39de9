/-
  The law WireBack's second text: a message's text with one route told wrongly. No program here.
-/
import Derived.Test.YtbfdgflbflajdaaGreatDoorWireLines
namespace Go.Proofs.YtbfdgflbflajdaaGreatDoor
open Go.RowKit

/-- what a line of Adds tells, place by place. -/
def badAt (L : List Ro) (a : Nat) (b : List UInt8) (k : Nat) : List UInt8 := if k = a then b else textA (L.getD k ro0).att
theorem badX_len (L : List Ro) (a : Nat) (b : List UInt8) (ha : a < L.length) : (badX L a b).length = L.length := by
  unfold badX
  simp
  omega
theorem badX_get (L : List Ro) (a : Nat) (b : List UInt8) (ha : a < L.length) (k : Nat) (hk : k < (badX L a b).length) : (badX L a b)[k] = ((L.getD k ro0).dst, badAt L a b k) := by
  have hkl : k < L.length := by rw [badX_len L a b ha] at hk; exact hk
  have hta : ((L.take a).map (fun r => (r.dst, textA r.att))).length = a := by simp; omega
  revert hk
  unfold badX badAt
  intro hk
  by_cases h1 : k < a
  · rw [List.getElem_append_left (by omega), if_neg (by omega)]
    simp [List.getD, hkl]
  · rw [List.getElem_append_right (by omega)]
    simp only [hta]
    by_cases h2 : k = a
    · subst h2
      simp
    · obtain ⟨j, rfl⟩ : ∃ j, k = a + 1 + j := ⟨k - a - 1, by omega⟩
      rw [if_neg h2]
      simp only [show a + 1 + j - a = j + 1 by omega, List.getElem_cons_succ, List.getElem_map, List.getElem_drop]
      simp [List.getD, hkl]
/-- the text so far. -/
def tD (D : List (Int × Int)) (k : Nat) : List UInt8 := [110, 101, 119, 115, 10] ++ ((D.take k).map (fun p => dropT p ++ [10])).flatten
def tA (D : List (Int × Int)) (L : List Ro) (a : Nat) (b : List UInt8) (k : Nat) : List UInt8 := tD D D.length ++ (((badX L a b).take k).map (fun x => addL x ++ [10])).flatten
theorem tD_succ (D : List (Int × Int)) (k : Nat) (h : k < D.length) : tD D (k + 1) = tD D k ++ [45, 32] ++ txtP D[k].1 D[k].2 ++ [10] := by
  unfold tD
  rw [List.take_succ_eq_append_getElem h]
  simp only [dropT, List.map_append, List.map_cons, List.map_nil, List.flatten_append, List.flatten_cons, List.flatten_nil, List.append_nil, List.append_assoc]
theorem tA_succ (D : List (Int × Int)) (L : List Ro) (a : Nat) (b : List UInt8) (ha : a < L.length) (k : Nat) (h : k < L.length) : tA D L a b (k + 1) = tA D L a b k ++ [43, 32] ++ txtP L[k].dst.1 L[k].dst.2 ++ [32] ++ badAt L a b k ++ [10] := by
  have hk : k < (badX L a b).length := by rw [badX_len L a b ha]; exact h
  unfold tA
  rw [List.take_succ_eq_append_getElem hk, badX_get L a b ha k hk]
  have : L.getD k ro0 = L[k] := by simp [List.getD, h]
  rw [this]
  simp [addL]
theorem tA_zero (D : List (Int × Int)) (L : List Ro) (a : Nat) (b : List UInt8) : tA D L a b 0 = tD D D.length := by simp [tA]
theorem tA_all (D : List (Int × Int)) (L : List Ro) (a : Nat) (b : List UInt8) (ha : a < L.length) (n : Int) : tA D L a b L.length = (linesB ⟨kNews, n, D, L⟩ a b).flatten := by
  unfold tA tD linesB
  rw [List.take_length, List.take_of_length_le (by rw [badX_len L a b ha]; exact Nat.le_refl _)]
  simp [kNews, Function.comp_def]
theorem flat_len (X : List (List UInt8)) (N : Nat) (h : ∀ x ∈ X, x.length ≤ N) : X.flatten.length ≤ N * X.length := by
  induction X with
  | nil => simp
  | cons x X ih =>
    have h1 := h x (by simp)
    have h2 := ih (fun y hy => h y (by simp [hy]))
    simp only [List.flatten_cons, List.length_append, List.length_cons, Nat.mul_add]
    omega
theorem tD_len {D : List (Int × Int)} (h : ∀ p ∈ D, rt p.1 p.2 = true) (hd : D.length ≤ 61) (k : Nat) : (tD D k).length ≤ 20000 := by
  unfold tD
  have := flat_len ((D.take k).map (fun p => dropT p ++ [10])) 203 (fun x hx => by
    obtain ⟨p, hp, rfl⟩ := List.mem_map.1 hx
    have := txtP_len (h p (List.mem_of_mem_take hp))
    simp [dropT]; omega)
  have h3 : (D.take k).length ≤ 61 := by rw [List.length_take]; omega
  rw [List.length_map] at this
  simp only [List.length_append, List.length_cons, List.length_nil]
  have : 203 * (D.take k).length ≤ 203 * 61 := Nat.mul_le_mul_left _ h3
  omega
theorem badAt_len {L : List Ro} (h : ∀ r ∈ L, RightA r.att) (a : Nat) (b : List UInt8) (hb : b.length ≤ 40) (k : Nat) (hk : k < L.length) : (badAt L a b k).length ≤ 1000 := by
  unfold badAt
  split
  · omega
  · have : L.getD k ro0 = L[k] := by simp [List.getD, hk]
    rw [this]
    exact textA_len (h _ (List.getElem_mem hk))
theorem tA_len {D : List (Int × Int)} {L : List Ro} (h : ∀ p ∈ D, rt p.1 p.2 = true) (hd : D.length ≤ 61) (h1 : ∀ r ∈ L, RightA r.att) (h2 : ∀ r ∈ L, rt r.dst.1 r.dst.2 = true) (a : Nat) (ha : a < L.length) (b : List UInt8) (hb : b.length ≤ 40) (k : Nat) (hk : k ≤ L.length) : (tA D L a b k).length ≤ 20000 + 1300 * k := by
  induction k with
  | zero => rw [tA_zero]; have := tD_len h hd D.length; omega
  | succ k ih =>
    have hk' : k < L.length := hk
    rw [tA_succ D L a b ha k hk']
    have e1 := ih (by omega)
    have e2 := badAt_len h1 a b hb k hk'
    have e3 := txtP_len (h2 _ (List.getElem_mem hk'))
    simp only [List.length_append, List.length_cons, List.length_nil]
    omega
/-- one line told wrongly makes the text longer by what is told at most. -/
theorem bad_len (D : List (Int × Int)) (L : List Ro) (a : Nat) (ha : a < L.length) (b : List UInt8) (n : Int) : (linesB ⟨kNews, n, D, L⟩ a b).flatten.length ≤ (linesT ⟨kNews, n, D, L⟩).flatten.length + b.length := by
  have e : L = L.take a ++ L[a] :: L.drop (a + 1) := by rw [List.getElem_cons_drop ha, List.take_append_drop]
  have hat : L.getD a ro0 = L[a] := by simp [List.getD, ha]
  have hT : linesT ⟨kNews, n, D, L⟩ = (headT kNews n :: (D.map dropT ++ ((L.take a).map addT ++ addT L[a] :: (L.drop (a + 1)).map addT))).map (· ++ [10]) := by
    unfold linesT linesM
    have e2 : L.map addT = (L.take a).map addT ++ addT L[a] :: (L.drop (a + 1)).map addT := by
      conv => lhs; rw [e]
      simp only [List.map_append, List.map_cons]
    simp only [e2]
  have hB : linesB ⟨kNews, n, D, L⟩ a b = (kNews :: (D.map dropT ++ ((L.take a).map addT ++ addL (L[a].dst, b) :: (L.drop (a + 1)).map addT))).map (· ++ [10]) := by
    unfold linesB badX
    rw [hat]
    simp [Function.comp_def, addT, addL]
  have hh : (headT kNews n).length = 4 := rfl
  rw [hT, hB]
  simp only [List.map_cons, List.map_append, List.flatten_cons, List.flatten_append, List.length_append, List.length_cons, List.length_nil, hh]
  have h1 : (addL (L[a].dst, b)).length ≤ (addT L[a]).length + b.length := by
    simp only [addL, addT, List.length_append, List.length_cons, List.length_nil]
    omega
  have h2 : kNews.length = 4 := rfl
  omega
theorem read_bad_right {D : List (Int × Int)} {L : List Ro} {n : Int} (h : RightM ⟨kNews, n, D, L⟩) (a : Nat) (ha : a < L.length) (b : List UInt8) (hb : readC b ≠ 0) (hnl : (10 : UInt8) ∉ b) : runR rg0 0 (linesL (tA D L a b L.length)) = some ⟨kNews, 0, insP L[a].dst D, L.eraseIdx a, true⟩ := by
  rw [tA_all D L a b ha n]
  unfold linesB
  rw [linesL_flat _ (bad_not h a ha b hnl) (by simp)]
  exact runR_bad h a ha b hb
end Go.Proofs.YtbfdgflbflajdaaGreatDoor
