/-
  errors.As at a **api.Fault: a hit at an *api.Fault (the target is set), a miss at an error of errors.New's make.
-/
import Derived.Test.YtkcacdlgmapjjaaErr
namespace Go.Proofs.Ytkcacdlgmapjjaa
open Go.RowKit Go.Extern.Stop Go.Stop Go.Extern
theorem cell_lt {w : World} {a : Addr} {v : Value} (h : w.cell? a = some v) : a.block < w.heap.size := by
  rcases Nat.lt_or_ge a.block w.heap.size with h' | h'
  · exact h'
  · simp [World.cell?, Array.getElem?_eq_none h'] at h

end Go.Proofs.Ytkcacdlgmapjjaa
