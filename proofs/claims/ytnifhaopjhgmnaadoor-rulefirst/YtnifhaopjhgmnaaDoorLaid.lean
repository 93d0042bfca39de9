/-
  From the row's condition (the listed variables read as their initialisers lay them) to what the walks ask: each error of package api is an *errors.errorString, no two are one, and their blocks bear no frozen range.
-/
import Derived.Test.YtnifhaopjhgmnaaDoorRows
import Derived.Test.YtnifhaopjhgmnaaDoorCode
import Derived.Test.YtnifhaopjhgmnaaDoorGA
import Derived.LaidLaws
import Derived.LaidHandle
import Derived.Stop.LaidErr
namespace Go.Proofs.YtnifhaopjhgmnaaDoor
open Go.RowKit Go.ChangeShapes

theorem etNamed : Tryd.prog.globalNamed "errors.errorType" = some 3 := by kernel_rfl
theorem rtType : (Tryd.prog.cutTypes.find? (·.1 == "internal/reflectlite.rtype")).map (·.2) = some 97 := by kernel_rfl
theorem oneRow : ((List.range 150).filter fun t => Tryd.prog.rowNamed t [101, 114, 114, 111, 114]) = [31] := by kernel_rfl
theorem typesSize : Tryd.prog.types.size = 150 := by kernel_rfl
theorem handle_of {W : World} {l : List (String × DataW Unit)} (h : handlesMet Tryd.prog l W) (hm : ("errors.errorType", Rows.laid_errors_errorType) ∈ l) : W.cell? ⟨3, 0, none⟩ = some (.iface 97 (.agg #[.pointer (some ⟨5, 31, none⟩)])) := by
  obtain ⟨name, u, ty, e1, e2, e3, e4, e5⟩ := h _ hm
  have en : name = [101, 114, 114, 111, 114] := (Option.some.inj e1).symm
  subst en
  obtain rfl := Option.some.inj (rtType.symm.trans e2)
  have hm : ty ∈ (List.range 150).filter fun t => Tryd.prog.rowNamed t [101, 114, 114, 111, 114] := List.mem_filter.2 ⟨List.mem_range.2 (by rw [← typesSize]; exact e3), e4⟩
  rw [oneRow] at hm
  obtain rfl := List.mem_singleton.1 hm
  have hh : typeHandle Tryd.prog 31 = .pointer (some ⟨5, 31, none⟩) := by kernel_rfl
  rw [hh] at e5
  simpa using World.var?_cell etNamed e5 0

/-- the nine errors, by name and text. -/
def nine : List (String × List UInt8) := [("herepath/api.ErrText", [104, 101, 114, 101, 112, 97, 116, 104, 58, 32, 116, 101, 120, 116]), ("herepath/api.ErrBound", [104, 101, 114, 101, 112, 97, 116, 104, 58, 32, 98, 111, 117, 110, 100]), ("herepath/api.ErrShape", [104, 101, 114, 101, 112, 97, 116, 104, 58, 32, 115, 104, 97, 112, 101]), ("herepath/api.ErrKind", [104, 101, 114, 101, 112, 97, 116, 104, 58, 32, 107, 105, 110, 100]), ("herepath/api.ErrNone", [104, 101, 114, 101, 112, 97, 116, 104, 58, 32, 110, 111, 110, 101]), ("herepath/api.ErrExist", [104, 101, 114, 101, 112, 97, 116, 104, 58, 32, 101, 120, 105, 115, 116]), ("herepath/api.ErrFull", [104, 101, 114, 101, 112, 97, 116, 104, 58, 32, 102, 117, 108, 108]), ("herepath/api.ErrOrder", [104, 101, 114, 101, 112, 97, 116, 104, 58, 32, 111, 114, 100, 101, 114]), ("herepath/api.ErrLoop", [104, 101, 114, 101, 112, 97, 116, 104, 58, 32, 108, 111, 111, 112])]

theorem gn1 : Tryd.prog.globalNamed "herepath/api.ErrBound" = some 1 := by kernel_rfl
theorem gn2 : Tryd.prog.globalNamed "herepath/api.ErrShape" = some 2 := by kernel_rfl
theorem gn6 : Tryd.prog.globalNamed "herepath/api.ErrFull" = some 0 := by kernel_rfl
theorem gn7 : Tryd.prog.globalNamed "herepath/api.ErrOrder" = some 4 := by kernel_rfl
theorem gt1 : (Tryd.prog.globals[1]?).map (·.type) = some 31 := by kernel_rfl
theorem gt2 : (Tryd.prog.globals[2]?).map (·.type) = some 31 := by kernel_rfl
theorem gt6 : (Tryd.prog.globals[0]?).map (·.type) = some 31 := by kernel_rfl
theorem gt7 : (Tryd.prog.globals[4]?).map (·.type) = some 31 := by kernel_rfl
end Go.Proofs.YtnifhaopjhgmnaaDoor
