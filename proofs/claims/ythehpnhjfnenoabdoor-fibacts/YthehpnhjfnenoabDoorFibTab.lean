/-
  A table of ways in memory; package fib's longest: the way down to an address.
-/
import Derived.Test.YthehpnhjfnenoabDoorFibWithout
import Derived.Test.YthehpnhjfnenoabDoorFibGather
namespace Go.Proofs.YthehpnhjfnenoabDoor
open Go.RowKit

def tabObj (root : Value) (most cnt : Int) : Obj := .cells #[root, .int .i64 most, .int .i64 cnt] 77 (0, 0)
/-- a table at a block: its tree, for how many it is. -/
structure Tab (w : World) (tb : Nat) (T : FT) (most : Int) : Prop where
  obj : w.heap[tb]? = some (tabObj T.ptr most T.ents.length)
  inn : T.In w
  ok : T.Ok 0 0
  nd : (tb :: T.blocks).Nodup
  m0 : 0 ≤ most
  m1 : most ≤ 60
  le : (T.ents.length : Int) ≤ most
theorem tab_cells {w : World} {tb : Nat} {p : Value} {most cnt : Int} (h : w.heap[tb]? = some (tabObj p most cnt)) :
    w.cell? ⟨tb, 0, none⟩ = some p ∧ w.cell? ⟨tb, 1, none⟩ = some (.int .i64 most) ∧ w.cell? ⟨tb, 2, none⟩ = some (.int .i64 cnt) := by
  simp only [World.cell?, h, tabObj]
  exact ⟨rfl, rfl, rfl⟩
theorem tab_frozen {w : World} {tb : Nat} {p : Value} {most cnt : Int} (h : w.heap[tb]? = some (tabObj p most cnt)) (k : Nat) : w.frozen? ⟨tb, k, none⟩ = false := by
  simp [World.frozen?, h, tabObj]
theorem Tab.lt {w : World} {tb : Nat} {T : FT} {most : Int} (h : Tab w tb T most) : ∀ b ∈ tb :: T.blocks, b < w.heap.size := by
  intro b hb
  rcases List.mem_cons.1 hb with rfl | hb
  · exact (Array.getElem?_eq_some_iff.1 h.obj).1
  · exact in_lt T h.inn b hb
theorem Tab.kept {F : List Nat} {w w' : World} {tb : Nat} {T : FT} {most : Int} (h : Tab w tb T most) (hk : Kept F w w') (hd : ∀ b ∈ tb :: T.blocks, b ∉ F) : Tab w' tb T most :=
  ⟨hk.heap h.obj (hd tb (by simp)), in_kept hk (fun b hb => hd b (by simp [hb])) h.inn, h.ok, h.nd, h.m0, h.m1, h.le⟩
theorem Tab.below {w w' : World} {tb : Nat} {T : FT} {most : Int} (h : Tab w tb T most) (hb : Below w.heap.size w w') : Tab w' tb T most :=
  h.kept (F := []) (Kept.of_below hb) (by simp)
theorem Tab.srt {w : World} {tb : Nat} {T : FT} {most : Int} (h : Tab w tb T most) : Srt T.ents := ok_srt T 0 0 rt_00 h.ok
theorem Tab.rts {w : World} {tb : Nat} {T : FT} {most : Int} (h : Tab w tb T most) : Rts T.ents := ok_rts rt_00 h.ok
/-- an entry that may be none, in cells. -/
def accE (o : Option Ent) : Ent := o.getD ((0, 0), 0)
def entObj (e : Ent) : Obj := .cells #[.int .i64 e.1.1, .int .i64 e.1.2, .int .i64 e.2] 44 (0, 0)
theorem ent_cells {w : World} {b : Nat} {e : Ent} (h : w.heap[b]? = some (entObj e)) :
    w.cell? ⟨b, 0, none⟩ = some (.int .i64 e.1.1) ∧ w.cell? ⟨b, 1, none⟩ = some (.int .i64 e.1.2) ∧ w.cell? ⟨b, 2, none⟩ = some (.int .i64 e.2) := by
  simp only [World.cell?, h, entObj]
  exact ⟨rfl, rfl, rfl⟩
theorem ent_frozen {w : World} {b : Nat} {e : Ent} (h : w.heap[b]? = some (entObj e)) (k : Nat) : w.frozen? ⟨b, k, none⟩ = false := by
  simp [World.frozen?, h, entObj]
theorem ent_store {w : World} {b : Nat} {e : Ent} (h : w.heap[b]? = some (entObj e)) (a n k : Int) : (((w.setCell ⟨b, 0, none⟩ (.int .i64 a)).setCell ⟨b, 1, none⟩ (.int .i64 n)).setCell ⟨b, 2, none⟩ (.int .i64 k)).heap[b]? = some (entObj ((a, n), k)) :=
  node_set (node_set (node_set h 0 _) 1 _) 2 _
theorem ent_far {w : World} {b c : Nat} (h : c ≠ b) (x y z : Value) : (((w.setCell ⟨b, 0, none⟩ x).setCell ⟨b, 1, none⟩ y).setCell ⟨b, 2, none⟩ z).heap[c]? = w.heap[c]? := by
  rw [heap_far _ _ _ _ _ h, heap_far _ _ _ _ _ h, heap_far _ _ _ _ _ h]
/-- one step of the way down. -/
structure Down1 (w : World) (S : FT) (base k a m : Int) (acc o : Option Ent) : Prop where
  ok : S.Ok base k
  rt : rt base k = true
  has : hasB base k a = true
  down : S.down base k a m acc = o
  le : k ≤ m
  inn : S.In w
theorem down1_break {w : World} {b : Nat} {is : Bool} {e : Ent} {l r : FT} {base k a m : Int} {acc o : Option Ent} (h : Down1 w (.node b is e l r) base k a m acc o) (hk : k = m) : (if is = true then some e else acc) = o := by
  have := h.down
  unfold FT.down at this
  rw [if_pos hk] at this
  exact this
theorem down1_hi {w : World} {b : Nat} {is : Bool} {e : Ent} {l r : FT} {base k a m : Int} {acc o : Option Ent} (h : Down1 w (.node b is e l r) base k a m acc o) (hk : k ≠ m) (hm : m ≤ 32) (hi : hiB base k a = true) : Down1 w r (base + pw (k + 1)) (k + 1) a m (if is = true then some e else acc) o := by
  have hd := h.down
  unfold FT.down at hd
  rw [if_neg hk, if_pos hi] at hd
  have hle := h.le
  exact ⟨h.ok.2.2.2, rt_y h.rt (by omega), hi_has h.rt (by omega) h.has hi, hd, by omega, h.inn.2.2⟩
theorem down1_lo {w : World} {b : Nat} {is : Bool} {e : Ent} {l r : FT} {base k a m : Int} {acc o : Option Ent} (h : Down1 w (.node b is e l r) base k a m acc o) (hk : k ≠ m) (hm : m ≤ 32) (hi : hiB base k a = false) : Down1 w l base (k + 1) a m (if is = true then some e else acc) o := by
  have hd := h.down
  unfold FT.down at hd
  rw [if_neg hk, if_neg (by simp [hi])] at hd
  have hle := h.le
  exact ⟨h.ok.2.2.1, rt_x h.rt (by omega), lo_has h.rt (by omega) h.has hi, hd, by omega, h.inn.2.1⟩
end Go.Proofs.YthehpnhjfnenoabDoor
