/-
  What package attr leans on: its errors, errors' handle, strconv's table, bytealg's MaxLen; errors by numbers; within, isSystem, isTag.
-/
import Derived.Test.YtkcacdlgmapjjaaAttrFault0
import Derived.Test.YtkcacdlgmapjjaaCode
import Derived.Test.YtkcacdlgmapjjaaShelf
namespace Go.Proofs.Ytkcacdlgmapjjaa
open Go.RowKit
def inB3 (n a b : Int) : Bool := decide (a ≤ n) && decide (n ≤ b)
theorem inB3_out (x hi : Int) : outB x hi = !(inB3 x 1 hi) := by
  unfold outB inB3
  simp only [Bool.not_and, ← decide_not, Int.not_le]

/-- the first of n at which a question answers an error: its number and its place. -/
def firstQ (q : Nat → Nat) (n : Nat) : Nat × Int :=
  if firstN (fun k => decide (q k ≠ 0)) n < n then (q (firstN (fun k => decide (q k ≠ 0)) n), (firstN (fun k => decide (q k ≠ 0)) n : Int)) else (0, -1)

end Go.Proofs.Ytkcacdlgmapjjaa
