/-
  A tree of bits in memory; what stands while blocks of one's own are written; package fib's bit.
-/
import Derived.Test.YthehpnhjfnenoabDoorFibMath
import Derived.Deep.Cut
import Derived.Deep.CutRange
namespace Go.Proofs.YthehpnhjfnenoabDoor
open Go.RowKit

/-- of what was there all stands, but for the blocks F. -/
structure Kept (F : List Nat) (w w' : World) : Prop where
  os : w'.os = w.os
  tape : w'.tape = w.tape
  output : w'.output = w.output
  size : w.heap.size ≤ w'.heap.size
  block : ∀ k, k < w.heap.size → k ∉ F → w'.heap[k]? = w.heap[k]?
theorem Kept.refl (F : List Nat) (w : World) : Kept F w w := ⟨rfl, rfl, rfl, Nat.le_refl _, fun _ _ _ => rfl⟩
theorem Kept.trans {F G : List Nat} {a b c : World} (h : Kept F a b) (k : Kept G b c) (hs : ∀ x ∈ G, x ∈ F ∨ a.heap.size ≤ x) : Kept F a c :=
  ⟨k.os.trans h.os, k.tape.trans h.tape, k.output.trans h.output, Nat.le_trans h.size k.size, fun i hi hn => (k.block i (Nat.lt_of_lt_of_le hi h.size) fun hg => by
    rcases hs i hg with hg | hg
    · exact hn hg
    · omega).trans (h.block i hi hn)⟩
theorem Kept.mono {F G : List Nat} {a b : World} (h : Kept F a b) (hs : ∀ x ∈ F, x ∈ G ∨ a.heap.size ≤ x) : Kept G a b :=
  (Kept.refl G a).trans h hs
theorem Kept.of_below {F : List Nat} {a b : World} (h : Below a.heap.size a b) : Kept F a b := ⟨h.os, h.tape, h.output, h.size, fun k hk _ => h.block k hk⟩
theorem Kept.below {F : List Nat} {a b : World} {B : Nat} (h : Kept F a b) (hB : B ≤ a.heap.size) (hF : ∀ x ∈ F, B ≤ x) : Below B a b :=
  ⟨h.os, h.tape, h.output, h.size, fun k hk => h.block k (by omega) fun hm => by have := hF k hm; omega⟩
theorem Kept.alloc {F : List Nat} {a w : World} (h : Kept F a w) (o : Obj) : Kept F a (w.alloc o) :=
  h.trans (G := []) (Kept.of_below (below_alloc w o)) (by simp)
theorem Kept.drew {F : List Nat} {a w : World} (h : Kept F a w) : Kept F a w.drew := ⟨h.os, h.tape, h.output, h.size, h.block⟩
theorem Kept.setCell {F : List Nat} {a w : World} (h : Kept F a w) {p : Addr} (hp : p.block ∈ F ∨ a.heap.size ≤ p.block) (u : Value) : Kept F a (w.setCell p u) :=
  h.trans (G := [p.block]) ⟨rfl, rfl, rfl, by simp [World.setCell], fun k _ hk => Below.heap_setCell _ _ _ _ (by simpa using hk)⟩ (by simpa using hp)
theorem Kept.cell {F : List Nat} {w w' : World} (h : Kept F w w') {p : Addr} {v : Value} (hc : w.cell? p = some v) (hn : p.block ∉ F) : w'.cell? p = some v := by
  rw [World.cell?_of_block (w := w) (h.block p.block (cell_lt' hc) hn)]; exact hc
theorem Kept.heap {F : List Nat} {w w' : World} (h : Kept F w w') {b : Nat} {o : Obj} (hc : w.heap[b]? = some o) (hn : b ∉ F) : w'.heap[b]? = some o := by
  rw [h.block b (Array.getElem?_eq_some_iff.1 hc).1 hn]; exact hc

def FT.ptr : FT → Value
  | .nil => .pointer none
  | .node b _ _ _ _ => .pointer (some ⟨b, 0, none⟩)
theorem FT.ptr_pointer (T : FT) : ∃ u, T.ptr = .pointer u := by
  cases T with
  | nil => exact ⟨_, rfl⟩
  | node b is e l r => exact ⟨_, rfl⟩
/-- a node's cells. -/
def nodeObj (p q : Value) (is : Bool) (e : Ent) : Obj := .cells #[p, q, .bool is, .int .i64 e.1.1, .int .i64 e.1.2, .int .i64 e.2] 103 (0, 0)
def FT.In (w : World) : FT → Prop
  | .nil => True
  | .node b is e l r => w.heap[b]? = some (nodeObj l.ptr r.ptr is e) ∧ l.In w ∧ r.In w
theorem in_same {w w' : World} (T : FT) (hs : ∀ b ∈ T.blocks, w'.heap[b]? = w.heap[b]?) (h : T.In w) : T.In w' := by
  induction T with
  | nil => trivial
  | node b is e l r ihl ihr =>
    obtain ⟨h1, h2, h3⟩ := h
    refine ⟨by rw [hs b (by simp [FT.blocks])]; exact h1, ihl (fun c hc => hs c ?_) h2, ihr (fun c hc => hs c ?_) h3⟩
    · simp [FT.blocks, hc]
    · simp [FT.blocks, hc]
theorem in_lt {w : World} (T : FT) (h : T.In w) : ∀ b ∈ T.blocks, b < w.heap.size := by
  induction T with
  | nil => intro b hb; cases hb
  | node b is e l r ihl ihr =>
    obtain ⟨h1, h2, h3⟩ := h
    intro c hc
    simp only [FT.blocks, List.mem_cons, List.mem_append] at hc
    rcases hc with rfl | hc | hc
    · exact (Array.getElem?_eq_some_iff.1 h1).1
    · exact ihl h2 c hc
    · exact ihr h3 c hc
theorem in_kept {F : List Nat} {w w' : World} {T : FT} (hk : Kept F w w') (hd : ∀ b ∈ T.blocks, b ∉ F) (h : T.In w) : T.In w' :=
  in_same T (fun b hb => hk.block b (in_lt T h b hb) (hd b hb)) h
theorem in_below {w w' : World} {T : FT} (hk : Below w.heap.size w w') (h : T.In w) : T.In w' := in_kept (F := []) (Kept.of_below hk) (by simp) h
/-- a node's cells, one by one. -/
theorem node_cells {w : World} {b : Nat} {p q : Value} {is : Bool} {e : Ent} (h : w.heap[b]? = some (nodeObj p q is e)) :
    w.cell? ⟨b, 0, none⟩ = some p ∧ w.cell? ⟨b, 1, none⟩ = some q ∧ w.cell? ⟨b, 2, none⟩ = some (.bool is) ∧ w.cell? ⟨b, 3, none⟩ = some (.int .i64 e.1.1) ∧ w.cell? ⟨b, 4, none⟩ = some (.int .i64 e.1.2) ∧ w.cell? ⟨b, 5, none⟩ = some (.int .i64 e.2) := by
  simp only [World.cell?, h, nodeObj]
  exact ⟨rfl, rfl, rfl, rfl, rfl, rfl⟩
theorem node_frozen {w : World} {b : Nat} {p q : Value} {is : Bool} {e : Ent} (h : w.heap[b]? = some (nodeObj p q is e)) (k : Nat) : w.frozen? ⟨b, k, none⟩ = false := by
  simp [World.frozen?, h, nodeObj]
theorem node_set {w : World} {b : Nat} {c : Array Value} {t : TypeId} (h : w.heap[b]? = some (.cells c t (0, 0))) (k : Nat) (v : Value) : (w.setCell ⟨b, k, none⟩ v).heap[b]? = some (.cells (c.setIfInBounds k v) t (0, 0)) :=
  heap_setCell_same w b k c t v h
theorem heap_far (w : World) (b c k : Nat) (v : Value) (h : c ≠ b) : (w.setCell ⟨b, k, none⟩ v).heap[c]? = w.heap[c]? := Below.heap_setCell _ _ _ _ h

theorem bit_math {base n a : Int} (hr : rt base n = true) (hn : n < 32) (hh : hasB base n a = true) : bits .and .i64 (a / pw (n + 1)) 1 = if hiB base n a = true then 1 else 0 := by
  have hA := hasB_isA hh
  obtain ⟨a0, a1⟩ := (isA_iff a).1 hA
  have hs := (hasB_iff hr hA).1 hh
  have hp := pw_pos (n + 1)
  have hstep := pw_step n hn
  have hm := rt_mul hr
  have hd0 : 0 ≤ a / pw (n + 1) := Int.ediv_nonneg a0 (by omega)
  have hd1 : a / pw (n + 1) ≤ a := Int.ediv_le_self _ a0
  have hk := bits_mask .i64 63 (by decide) wraps_i64 1 (by omega) (a / pw (n + 1)) hd0 (by omega)
  rw [show (2 : Int) ^ 1 - 1 = 1 by decide, show (2 : Int) ^ 1 = 2 by decide] at hk
  rw [hk]
  clear hk
  obtain ⟨q, hq⟩ : ∃ q, base / pw n = q := ⟨_, rfl⟩
  rw [hq, hstep] at hm
  have hb : base = 2 * q * pw (n + 1) := by rw [hm, Int.mul_comm 2 q, Int.mul_assoc]
  cases hi : hiB base n a with
  | true =>
    rw [hiB, decide_eq_true_iff] at hi
    have e1 : a = (a - base - pw (n + 1)) + (2 * q + 1) * pw (n + 1) := by rw [Int.add_mul]; omega
    have e2 := Int.add_mul_ediv_right (a - base - pw (n + 1)) (2 * q + 1) (show pw (n + 1) ≠ 0 by omega)
    have z : (a - base - pw (n + 1)) / pw (n + 1) = 0 := Int.ediv_eq_zero_of_lt (by omega) (by omega)
    rw [← e1, z] at e2
    rw [e2]
    simp only [if_true]
    omega
  | false =>
    rw [hiB, decide_eq_false_iff_not] at hi
    have e1 : a = (a - base) + (2 * q) * pw (n + 1) := by omega
    have e2 := Int.add_mul_ediv_right (a - base) (2 * q) (show pw (n + 1) ≠ 0 by omega)
    have z : (a - base) / pw (n + 1) = 0 := Int.ediv_eq_zero_of_lt (by omega) (by omega)
    rw [← e1, z] at e2
    rw [e2]
    simp only [Bool.false_eq_true, if_false]
    omega
/-- the bit, as a number. -/
def bitI (base n a : Int) : Int := if hiB base n a = true then 1 else 0
theorem bit_any (base n a k : Int) (w : World) (hr : rt base n = true) (hn : n < 32) (hh : hasB base n a = true) (hk : Hid (bitI base n a = k)) :
    Calls Tryd.prog 63 #[.int .i64 a, .int .i64 n] w fun e w' => e = .returned (.int .i64 k) ∧ w' = w := by
  obtain ⟨n0, n1⟩ := rt_len hr
  have hm := bit_math hr hn hh
  rw [show pw (n + 1) = 2 ^ (31 - n).toNat by unfold pw; rw [show 32 - (n + 1) = 31 - n by omega], show (if hiB base n a = true then (1 : Int) else 0) = k from hk.out] at hm
  clear hk hh hr
  go_enter Tryd.func63, Tryd.ntmps63
  go_wp2
  go_ret
  exact ⟨rfl, rfl⟩
end Go.Proofs.YthehpnhjfnenoabDoor
