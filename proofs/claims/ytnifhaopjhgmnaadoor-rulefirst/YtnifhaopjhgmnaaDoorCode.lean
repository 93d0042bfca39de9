/-
  plain.Code at an error of errors.New's make, at an *api.Fault that holds one, and at nil, in whatever memory in which package api's nine errors lie as they were laid.
-/
import Derived.Test.YtnifhaopjhgmnaaDoorIs
import Derived.Test.YtnifhaopjhgmnaaDoorAs
namespace Go.Proofs.YtnifhaopjhgmnaaDoor
open Go.RowKit Go.Extern.Stop Go.Stop Go.Extern
theorem row_lt {w : World} {b : Nat} {o : Obj} (h : w.heap[b]? = some o) : b < w.heap.size := by
  rcases Nat.lt_or_ge b w.heap.size with h' | h'
  · exact h'
  · simp [Array.getElem?_eq_none h'] at h

theorem cell_below {B : Nat} {w w' : World} (hb : Below B w w') {p : Addr} {v : Value} (h : w.cell? p = some v) (hp : p.block < B) : w'.cell? p = some v := by
  rw [hb.cell hp]; exact h

/-- errors.As, a miss, in fewer words. -/
theorem as_miss' (e : Addr) (w : World) (hg : w.cell? ⟨3, 0, none⟩ = some (.iface 97 (.agg #[.pointer (some ⟨5, 31, none⟩)]))) :
    Calls Tryd.prog 39 #[.iface 117 (.pointer (some e)), .iface 70 (.pointer (some ⟨w.heap.size, 0, none⟩))] (w.alloc (.cells #[.pointer none] 62)) fun ev w' => ev = .returned (.bool false) ∧ Below w.heap.size w w' := by
  have hg' : (w.alloc (.cells #[.pointer none] 62)).cell? ⟨3, 0, none⟩ = some (.iface 97 (.agg #[.pointer (some ⟨5, 31, none⟩)])) := by
    rw [World.cell?_alloc_lt _ _ ⟨3, 0, none⟩ (cell_lt hg)]; exact hg
  refine (as_miss e ⟨w.heap.size, 0, none⟩ _ hg').mono ?_
  rintro ev w' ⟨rfl, rfl⟩
  refine ⟨rfl, ?_⟩
  exact ((((Below.refl _ _).alloc (Nat.le_refl _) _).alloc (by simp) _).alloc (by simp; omega) _).alloc (by simp; omega) _

/-- errors.As, a hit, in fewer words. -/
theorem as_hit' (e : Addr) (w : World) (hg : w.cell? ⟨3, 0, none⟩ = some (.iface 97 (.agg #[.pointer (some ⟨5, 31, none⟩)]))) :
    Calls Tryd.prog 39 #[.iface 62 (.pointer (some e)), .iface 70 (.pointer (some ⟨w.heap.size, 0, none⟩))] (w.alloc (.cells #[.pointer none] 62)) fun ev w' => ev = .returned (.bool true) ∧ Below w.heap.size w w' ∧ w'.cell? ⟨w.heap.size, 0, none⟩ = some (.pointer (some e)) := by
  have hg' : (w.alloc (.cells #[.pointer none] 62)).cell? ⟨3, 0, none⟩ = some (.iface 97 (.agg #[.pointer (some ⟨5, 31, none⟩)])) := by
    rw [World.cell?_alloc_lt _ _ ⟨3, 0, none⟩ (cell_lt hg)]; exact hg
  refine (as_hit e ⟨w.heap.size, 0, none⟩ (.pointer none) _ hg' (by simp) (by simp)).mono ?_
  rintro ev w' ⟨rfl, rfl⟩
  refine ⟨rfl, ?_, ?_⟩
  · exact (((((Below.refl _ _).alloc (Nat.le_refl _) _).alloc (by simp) _).alloc (by simp; omega) _).alloc (by simp; omega) _).alloc (by simp; omega) _ |>.setCell (Nat.le_refl _) _
  · apply World.cell?_setCell_same (u := .pointer none)
    rw [World.cell?_alloc_past _ _ _ (by simp; omega), World.cell?_alloc_past _ _ _ (by simp; omega), World.cell?_alloc_past _ _ _ (by simp; omega), World.cell?_alloc_past _ _ _ (by simp), World.cell?_alloc_at _ _ _ _ rfl]; rfl

theorem errors_new (s : ByteArray) (w : World) : Calls Tryd.prog 104 #[.string s] w fun ev w' => ev = .returned (.iface 117 (.pointer (some ⟨w.heap.size, 0, none⟩))) ∧ w' = w.alloc (.cells #[.string s] 138) := by
  go_enter Tryd.func104, Tryd.ntmps104
  go_wp2
  go_ret
  exact ⟨rfl, rfl⟩
end Go.Proofs.YtnifhaopjhgmnaaDoor
