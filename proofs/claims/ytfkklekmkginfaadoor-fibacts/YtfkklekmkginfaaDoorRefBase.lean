/-
  Check's answer as the number of an error; a box that was just made.
-/
import Derived.Test.YtfkklekmkginfaaDoorIp2
namespace Go.Proofs.YtfkklekmkginfaaDoor
open Go.RowKit

/-- Check, as a number of an error. -/
def chkC (a n : Int) : Nat := if isA a = true ∧ isL n = true then (if a % pw n = 0 then 0 else 3) else 2
def errV (et eb es : Addr) : Nat → Value
  | 0 => .nilIface
  | 1 => .iface 120 (.pointer (some et))
  | 2 => .iface 120 (.pointer (some eb))
  | _ => .iface 120 (.pointer (some es))
theorem chk_errV (a n : Int) (et eb es : Addr) : chk a n eb es = errV et eb es (chkC a n) := by
  unfold chk chkC
  split
  · split <;> rfl
  · rfl
theorem box_at (W : World) (x y : Value) (t : TypeId) : (W.alloc (.cells #[x, y] t)).cell? ⟨W.heap.size, 0, none⟩ = some x ∧ (W.alloc (.cells #[x, y] t)).cell? ⟨W.heap.size, 1, none⟩ = some y := by
  constructor <;> (rw [World.cell?_alloc_at _ _ _ _ rfl]; rfl)
theorem box_at2 (W : World) (o : Obj) (x y : Value) (t : TypeId) : ((W.alloc o).alloc (.cells #[x, y] t)).cell? ⟨W.heap.size + 1, 0, none⟩ = some x ∧ ((W.alloc o).alloc (.cells #[x, y] t)).cell? ⟨W.heap.size + 1, 1, none⟩ = some y := by
  constructor <;> (rw [World.cell?_alloc_at _ _ _ _ (by simp)]; rfl)
theorem chkC_rt (a n : Int) (h : rt a n = true) : chkC a n = 0 := by
  obtain ⟨h1, h2, h3⟩ := (rt_iff a n).1 h
  unfold chkC
  rw [if_pos ⟨(isA_iff a).2 h1, (isL_iff n).2 h2⟩, if_pos h3]
theorem rt_isL {a n : Int} (h : rt a n = true) : isL n = true := (isL_iff n).2 (rt_len h)
end Go.Proofs.YtfkklekmkginfaaDoor
