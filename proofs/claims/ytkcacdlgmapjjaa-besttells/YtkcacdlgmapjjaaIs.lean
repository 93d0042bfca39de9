/-
  errors.Is between two errors of errors.New's make, and of an *api.Fault that holds one of them; errors.As at a **api.Fault: a hit at an *api.Fault, a miss at an error of errors.New's make.
-/
import Derived.Test.YtkcacdlgmapjjaaErr
namespace Go.Proofs.Ytkcacdlgmapjjaa
open Go.RowKit Go.Extern.Stop Go.Stop Go.Extern
end Go.Proofs.Ytkcacdlgmapjjaa
