/-
  The document's answer, chapter 1 (herepathref1): NumberOf: what it returns at every text.
-/
import Derived.Test.YtkcacdlgmapjjaaRef4
namespace Go.Proofs.Ytkcacdlgmapjjaa
open Go.RowKit

def numR (l : List UInt8) : Int := if okNum l = true then valD l else -1
theorem numR_not {l : List UInt8} (h : okNum l = false) : numR l = -1 := by simp [numR, h]
theorem numR_yes {l : List UInt8} (h : okNum l = true) : numR l = valD l := by simp [numR, h]

end Go.Proofs.Ytkcacdlgmapjjaa
