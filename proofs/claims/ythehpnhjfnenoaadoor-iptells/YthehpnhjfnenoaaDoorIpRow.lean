/-
  From a row's condition to what the walks of chapter 1 lean on; the wrap of a row that lists variables and asks the world's shape; a prefix among the arguments.
-/
import Derived.Test.YthehpnhjfnenoaaDoorLaid
import Derived.Test.YthehpnhjfnenoaaDoorRowBase
import Derived.Test.YthehpnhjfnenoaaDoorAddressed
import Derived.HandedShaped
import Derived.Lib.LaidTab
import Derived.Lib.SmallJoins
import Derived.ProofKit
import Derived.LaidMore
import Derived.Lay
import Derived.OpenShut
import Derived.Stop.Joined
namespace Go.Proofs.YthehpnhjfnenoaaDoor
open Go.ChangeShapes Go.WideShapes Go.ChangeAt Go.RowKit Go.Joins

theorem gtabType : (Tryd.prog.globals[11]?).map (·.type) = some 164 := by kernel_rfl
theorem cellsU64 : Tryd.prog.cellsOf 141 = 1 := by kernel_rfl
theorem cellsTab : Tryd.prog.cellsOf 164 = 20 := by kernel_rfl
theorem pow10_data : Rows.laid_internal_strconv_uint64pow10 = Lib.tabData (H := Unit) .u64 Lib.pow10Tab := by kernel_rfl
theorem tab_of {W : World} {rest : List (String × DataW Unit)} (h : laidMet Tryd.prog (("internal/strconv.uint64pow10", Rows.laid_internal_strconv_uint64pow10) :: rest) W) : Lib.TabIs Tryd.prog W "internal/strconv.uint64pow10" .u64 Lib.pow10Tab := by
  rw [pow10_data] at h
  exact Lib.tabIs_of_head gtab gtabType Tryd.underlying164 Tryd.underlying141 cellsU64 cellsTab h
theorem max_of {W : World} (h : W.ShapedOpen Tryd.prog) : ∃ m, W.cell? ⟨10, 0, none⟩ = some (.int .i64 m) :=
  Go.Proofs.cell_of_shapedOpen_int (zero := #[.int .i64 0]) (t := 3) h (of_decide_eq_true (by kernel_rfl)) (by kernel_rfl) rfl (by kernel_rfl) (by kernel_rfl) Tryd.underlying3

/-- the errors that package ip hands back. -/
def three : List (String × List UInt8) := nine.take 3
theorem three_named : ∀ x ∈ three, ∃ g, Tryd.prog.globalNamed x.1 = some g ∧ (Tryd.prog.globals[g]?).map (·.type) = some 25 := fun x hx => nine_named x (List.mem_of_mem_take hx)
theorem ipErrs_of {W : World} (rest : List (String × DataW Unit)) (h : laidMet Tryd.prog (three.map (fun x => (x.1, errD x.2)) ++ rest) W) : ∃ et eb es, IpErrs W et eb es ∧ W.cell? ⟨0, 0, none⟩ = some (.iface 72 (.pointer (some et))) := by
  obtain ⟨ps, hv, hnd, hrows⟩ := h
  obtain ⟨az, -, -, -, hget⟩ := errs_of_laid three rest ps three_named hv hnd hrows
  obtain ⟨a0, -, h0, -⟩ := hget 0 _ rfl
  obtain ⟨a1, -, h1, -⟩ := hget 1 _ rfl
  obtain ⟨a2, -, h2, -⟩ := hget 2 _ rfl
  exact ⟨a0, a1, a2, ⟨rfl, by simpa using World.var?_cell gn1 h1 0, by simpa using World.var?_cell gn2 h2 0⟩, by simpa using World.var?_cell gn0 h0 0⟩
end Go.Proofs.YthehpnhjfnenoaaDoor
