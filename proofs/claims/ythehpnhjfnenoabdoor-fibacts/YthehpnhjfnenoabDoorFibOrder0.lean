/-
  FibOrder's mathematics: tables that hold what was put, in whatever order.
-/
import Derived.Test.YthehpnhjfnenoabDoorFibLaw
namespace Go.Proofs.YthehpnhjfnenoabDoor
open Go.RowKit

/-- M holds just K. -/
def Hold (M K : List Ent) : Prop := M.length = K.length ∧ ∀ x, x ∈ M ↔ x ∈ K
theorem hold_nil : Hold [] [] := ⟨rfl, fun _ => Iff.rfl⟩
theorem hold_no {M K : List Ent} {e : Ent} (h : Hold M K) (hk : ∀ y ∈ K, y.1 ≠ e.1) : hasL M e.1 = false := by
  rw [Bool.eq_false_iff]
  intro hh
  obtain ⟨x, hx, he⟩ := (hasL_iff _ _).1 hh
  exact hk x ((h.2 x).1 hx) he
theorem hold_put {M K : List Ent} {e : Ent} (hs : Srt M) (h : Hold M K) (hk : ∀ y ∈ K, y.1 ≠ e.1) : Hold (putL M e) (K ++ [e]) := by
  refine ⟨by rw [put_length hs, hold_no h hk]; simp [h.1], fun x => ?_⟩
  rw [put_mem hs, h.2 x, List.mem_append, List.mem_singleton]
  constructor
  · rintro (rfl | ⟨a, -⟩)
    · exact .inr rfl
    · exact .inl a
  · rintro (a | rfl)
    · exact .inr ⟨a, hk x a⟩
    · exact .inl rfl
theorem hold_cons {M K : List Ent} {e : Ent} (hs : Srt M) (h : Hold M K) (hk : ∀ y ∈ K, y.1 ≠ e.1) : Hold (putL M e) (e :: K) := by
  have := hold_put hs h hk
  exact ⟨by rw [this.1]; simp, fun x => by rw [this.2 x]; simp [or_comm]⟩
theorem hold_eq {M N K : List Ent} (hm : Srt M) (hn : Srt N) (h1 : Hold M K) (h2 : Hold N K) : M = N := srt_unique M N hm hn fun x => by rw [h1.2 x, h2.2 x]
/-- no two of one prefix, all right, as far as k. -/
def Fine (L : List Ent) (k : Nat) : Prop := ∀ i (h : i < L.length), i < k → rt L[i].1.1 L[i].1.2 = true ∧ ∀ j (_ : j < i), ∀ h' : j < L.length, L[i].1 ≠ L[j].1
theorem Fine.ne {L : List Ent} (h : Fine L L.length) {i j : Nat} (hi : i < L.length) (hj : j < L.length) (hne : i ≠ j) : L[i].1 ≠ L[j].1 := by
  rcases Nat.lt_or_gt_of_ne hne with hl | hl
  · exact ((h j hj hj).2 i hl hi).symm
  · exact (h i hi hi).2 j hl hj
/-- all that is put into the third one. -/
def outL (L : List Ent) (k : Nat) (p : Int × Int) : List Ent := (L.take k).filter fun x => decide (x.1 ≠ p)
theorem take_ne {L : List Ent} (h : Fine L L.length) {i : Nat} (hi : i < L.length) : ∀ y ∈ L.take i, y.1 ≠ L[i].1 := by
  intro y hy
  obtain ⟨j, hj, rfl⟩ := List.getElem_of_mem hy
  have hj' : j < i := by simp at hj; omega
  rw [List.getElem_take]
  exact h.ne (by omega) hi (by omega)
theorem drop_ne' {L : List Ent} (h : Fine L L.length) {i : Nat} (hi : i < L.length) : ∀ y ∈ L.drop (i + 1), y.1 ≠ L[i].1 := by
  intro y hy
  obtain ⟨j, hj, rfl⟩ := List.getElem_of_mem hy
  rw [List.getElem_drop]
  exact h.ne (by simp at hj; omega) hi (by omega)
theorem out_ne {L : List Ent} (h : Fine L L.length) {i : Nat} (hi : i < L.length) (p : Int × Int) : ∀ y ∈ outL L i p, y.1 ≠ L[i].1 := fun y hy => take_ne h hi y (List.mem_filter.1 hy).1
theorem out_step {L : List Ent} {i : Nat} (hi : i < L.length) {p : Int × Int} (hne : L[i].1 ≠ p) : outL L (i + 1) p = outL L i p ++ [L[i]] := by
  unfold outL
  rw [List.take_succ_eq_append_getElem hi, List.filter_append]
  simp [hne]
theorem out_at {L : List Ent} {i : Nat} (hi : i < L.length) : outL L (i + 1) L[i].1 = outL L i L[i].1 := by
  unfold outL
  rw [List.take_succ_eq_append_getElem hi, List.filter_append]
  simp
theorem out_length {L : List Ent} {k : Nat} {p : Int × Int} : (outL L k p).length ≤ k := by
  unfold outL
  exact Nat.le_trans (List.length_filter_le _ _) (List.length_take_le _ _)
theorem hold_out {M N L : List Ent} {p : Int × Int} (hm : Srt M) (hn : Srt N) (h1 : Hold M L) (h2 : Hold N (outL L L.length p)) : N = dropL M p := by
  refine srt_unique _ _ hn (drop_srt hm p) fun x => ?_
  rw [h2.2 x, drop_mem, h1.2 x, outL, List.take_length, List.mem_filter]
  simp
theorem put_ok {M : List Ent} {x : Ent} (hr : rt x.1.1 x.1.2 = true) (hl : M.length < 60) : putC M 60 x.1.1 x.1.2 = 0 ∧ putS M 60 x.1.1 x.1.2 x.2 = putL M x := by
  have h : putC M 60 x.1.1 x.1.2 = 0 := by unfold putC; rw [if_pos hr, if_neg (fun h => by have := h.2; omega)]
  exact ⟨h, by unfold putS; rw [if_pos h]⟩
/-- the three tables, k put. -/
structure Three (B : Nat) (w wr : World) (E : Nat → Addr) (L : List Ent) (k : Nat) (q : Int × Int) (tt tu tw : Nat) (Lt Lu Lw : List Ent) (Ft Fu Fw : List Nat) : Prop where
  ins : In0 B E w wr
  t : Own B wr tt Lt 60 Ft
  u : Own B wr tu Lu 60 Fu
  w : Own B wr tw Lw 60 Fw
  tu : ∀ b ∈ Ft, b ∉ Fu
  tw : ∀ b ∈ Ft, b ∉ Fw
  uw : ∀ b ∈ Fu, b ∉ Fw
  ht : Hold Lt (L.take k)
  hu : Hold Lu (L.drop (L.length - k))
  hw : Hold Lw (outL L k q)
theorem pre_cells {w : World} {b : Nat} {t : TypeId} {x y : Value} (h : w.heap[b]? = some (.cells #[x, y] t (0, 0))) : w.cell? ⟨b, 0, none⟩ = some x ∧ w.cell? ⟨b, 1, none⟩ = some y ∧ w.frozen? ⟨b, 0, none⟩ = false ∧ w.frozen? ⟨b, 1, none⟩ = false := by
  refine ⟨?_, ?_, ?_, ?_⟩ <;> simp [World.cell?, World.frozen?, h]
theorem ne_step {L : List Ent} {k m : Nat} (hk : k < L.length) (hm : m < L.length) (h : ∀ j (_ : j < m), ∀ h' : j < L.length, L[k].1 ≠ L[j].1) (hne : L[k].1 ≠ L[m].1) : ∀ j (_ : j < m + 1), ∀ h' : j < L.length, L[k].1 ≠ L[j].1 := by
  intro j hj h'
  rcases Nat.lt_or_ge j m with h1 | h1
  · exact h j h1 h'
  · obtain rfl : j = m := by omega
    exact hne
theorem Three.drew {B : Nat} {w wr : World} {E : Nat → Addr} {L : List Ent} {k : Nat} {q : Int × Int} {tt tu tw : Nat} {Lt Lu Lw : List Ent} {Ft Fu Fw : List Nat} (h : Three B w wr E L k q tt tu tw Lt Lu Lw Ft Fu Fw) : Three B w wr.drew E L k q tt tu tw Lt Lu Lw Ft Fu Fw :=
  have hb : Below wr.heap.size wr wr.drew := (Below.refl _ _).drew
  ⟨h.ins.all hb, h.t.all hb, h.u.all hb, h.w.all hb, h.tu, h.tw, h.uw, h.ht, h.hu, h.hw⟩
/-- one more put into t and u. -/
theorem hold_t {L Lt : List Ent} {k : Nat} (hf : Fine L L.length) (hk : k < L.length) (hs : Srt Lt) (h : Hold Lt (L.take k)) : Hold (putL Lt L[k]) (L.take (k + 1)) := by
  rw [List.take_succ_eq_append_getElem hk]
  exact hold_put hs h (take_ne hf hk)
theorem hold_u {L Lu : List Ent} {k m : Nat} (hf : Fine L L.length) (hm : m + (k + 1) = L.length) (hl : m < L.length) (hs : Srt Lu) (h : Hold Lu (L.drop (L.length - k))) : Hold (putL Lu L[m]) (L.drop (L.length - (k + 1))) := by
  rw [show L.length - (k + 1) = m by omega, List.drop_eq_getElem_cons hl]
  rw [show L.length - k = m + 1 by omega] at h
  exact hold_cons hs h (drop_ne' hf hl)
theorem hold_w {L Lw : List Ent} {k j : Nat} (hf : Fine L L.length) (hk : k < L.length) (hj : j < L.length) (hne : k ≠ j) (hs : Srt Lw) (h : Hold Lw (outL L k L[j].1)) : Hold (putL Lw L[k]) (outL L (k + 1) L[j].1) := by
  rw [out_step hk (hf.ne hk hj hne)]
  exact hold_put hs h (out_ne hf hk _)
end Go.Proofs.YthehpnhjfnenoabDoor
