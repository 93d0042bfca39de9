/-
  plain.Code at an error of errors.New's make, at an *api.Fault that holds one, and at nil, in whatever memory in which package api's nine errors lie as they were laid.
-/
import Derived.Test.YtkcacdlgmapjjaaIs
import Derived.Test.YtkcacdlgmapjjaaAs
namespace Go.Proofs.Ytkcacdlgmapjjaa
open Go.RowKit Go.Extern.Stop Go.Stop Go.Extern
theorem row_lt {w : World} {b : Nat} {o : Obj} (h : w.heap[b]? = some o) : b < w.heap.size := by
  rcases Nat.lt_or_ge b w.heap.size with h' | h'
  · exact h'
  · simp [Array.getElem?_eq_none h'] at h

theorem cell_below {B : Nat} {w w' : World} (hb : Below B w w') {p : Addr} {v : Value} (h : w.cell? p = some v) (hp : p.block < B) : w'.cell? p = some v := by
  rw [hb.cell hp]; exact h

end Go.Proofs.Ytkcacdlgmapjjaa
