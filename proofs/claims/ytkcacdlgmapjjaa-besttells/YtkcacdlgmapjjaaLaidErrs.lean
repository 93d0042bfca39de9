/-
  A row's condition on errors: each listed one is an *errors.errorString, no two are one, and their blocks bear no frozen range.
-/
import Derived.Test.YtkcacdlgmapjjaaRows
import Derived.LaidLaws
import Derived.Stop.LaidErr
namespace Go.Proofs.Ytkcacdlgmapjjaa
open Go.RowKit Go.ChangeShapes

theorem star : "*" ++ "errors.errorString" = "*errors.errorString" := by decide
theorem cellsStr : Try.prog.cellsOf 9 = 1 := by kernel_rfl

def errD (text : List UInt8) : DataW Unit := .iface "*errors.errorString" (.ptr (.agg [.lit (.string text)]))

end Go.Proofs.Ytkcacdlgmapjjaa
