/-
  From a row's condition to what package set's walks lean on; a list of prefixes among the arguments.
-/
import Derived.Test.YthehpnhjfnenoaaDoorRowBase
import Derived.Test.YthehpnhjfnenoaaDoorLaidErrs
import Derived.Test.YthehpnhjfnenoaaDoorSet3
import Derived.Deep.SlicePairs
import Derived.Carry
namespace Go.Proofs.YthehpnhjfnenoaaDoor
open Go.ChangeShapes Go.WideShapes Go.ChangeAt Go.RowKit Go.Joins Go.Deep

theorem laidOut : laidOutB Tryd.prog = true := by kernel_rfl
theorem cellsInt : Tryd.prog.cellsOf 3 = 1 := by kernel_rfl
section
variable {H : Type} {enc : TypeId × Value → H}
set_option maxRecDepth 100000 in
/-- A list of prefixes that came in. -/
theorem open_list {W : World} {b0 : Nat} {v : Value} {d : DataW H} {ps : List MemPlace} (hv : Value.okWide Tryd.prog W .any b0 60 v) (h : DataW.Trod enc Tryd.prog W 0 (fun _ => true) true 60 v d ps) :
    ∃ (q : Option Addr) (L : List (Int × Int)) (cap : Nat), v = .slice q L.length cap ∧ Pairs W q L ∧ ((Value.slice q L.length cap = .slice none 0 0 ∧ L.length = 0) ∨ ∃ ad c, Value.slice q L.length cap = .slice (some ad) L.length c) := by
  obtain ⟨a0, len, cap, rfl⟩ := okWide_slice Tryd.underlying60 hv
  obtain ⟨fuel, hf⟩ := h
  rcases open_slice_pairs Tryd.underlying60 Tryd.underlying36 cellsP rfl rfl cellsInt cellsInt hf with ⟨hcs, -⟩ | ⟨a, len', cap', m, n, V0, V1, D0, D1, P0, P1, hcs, -, hl, hm, hmeq, -, hall⟩
  · simp [Value.cells] at hcs
    obtain ⟨rfl, rfl, rfl⟩ := hcs
    exact ⟨none, [], 0, rfl, pairs_nil _ _, .inl ⟨rfl, rfl⟩⟩
  · simp [Value.cells] at hcs
    obtain ⟨rfl, rfl, rfl⟩ := hcs
    simp only [if_true] at hmeq
    subst hmeq
    refine ⟨some a, (List.range len).map fun i => (intOf (V0 i), intOf (V1 i)), m, by simp, fun i hi => ?_, .inr ⟨a, m, rfl⟩⟩
    have hi' : i < len := by simpa using hi
    obtain ⟨c0, c1, t0, t1⟩ := hall i (by omega)
    obtain ⟨x, e0, -, -⟩ := DataW.trod_int Tryd.underlying3 t0
    obtain ⟨y, e1, -, -⟩ := DataW.trod_int Tryd.underlying3 t1
    simp only [List.cons.injEq, and_true] at e0 e1
    obtain ⟨b, o, spot⟩ := a
    have hspot : spot = none := by simpa [Addr.add] using World.cell?_spot (hall 0 (by omega)).1
    subst hspot
    rw [e0, add_plain] at c0
    rw [e1, add_plain] at c1
    refine ⟨b, o, rfl, ?_, ?_⟩
    · simp only [List.getElem_map, List.getElem_range, e0, intOf]
      exact c0
    · simp only [List.getElem_map, List.getElem_range, e1, intOf]
      exact c1
end
theorem gdb : Tryd.prog.globalNamed "math/bits.deBruijn64tab" = some 13 := by kernel_rfl
theorem gdbType : (Tryd.prog.globals[13]?).map (·.type) = some 173 := by kernel_rfl
theorem cellsU8 : Tryd.prog.cellsOf 5 = 1 := by kernel_rfl
theorem cellsDb : Tryd.prog.cellsOf 173 = 64 := by kernel_rfl
theorem db_data : Rows.laid_math_bits_deBruijn64tab = Lib.tabData (H := Unit) .u8 dbTab := by kernel_rfl
theorem db_of {W : World} {rest : List (String × DataW Unit)} (h : laidMet Tryd.prog (("math/bits.deBruijn64tab", Rows.laid_math_bits_deBruijn64tab) :: rest) W) : Lib.TabIs Tryd.prog W "math/bits.deBruijn64tab" .u8 dbTab := by
  rw [db_data] at h
  exact Lib.tabIs_of_head gdb gdbType Tryd.underlying173 Tryd.underlying5 cellsU8 cellsDb h
theorem gnB : Tryd.prog.globalNamed "herepath/api.ErrBound" = some 1 := by kernel_rfl
theorem gnS : Tryd.prog.globalNamed "herepath/api.ErrShape" = some 2 := by kernel_rfl
theorem gtB : (Tryd.prog.globals[1]?).map (·.type) = some 25 := by kernel_rfl
theorem gtS : (Tryd.prog.globals[2]?).map (·.type) = some 25 := by kernel_rfl
def two : List (String × List UInt8) := [("herepath/api.ErrBound", [104, 101, 114, 101, 112, 97, 116, 104, 58, 32, 98, 111, 117, 110, 100]), ("herepath/api.ErrShape", [104, 101, 114, 101, 112, 97, 116, 104, 58, 32, 115, 104, 97, 112, 101])]
theorem two_named : ∀ x ∈ two, ∃ g, Tryd.prog.globalNamed x.1 = some g ∧ (Tryd.prog.globals[g]?).map (·.type) = some 25 := by
  intro x hx
  simp only [two, List.mem_cons, List.not_mem_nil, or_false] at hx
  rcases hx with rfl | rfl
  · exact ⟨_, gnB, gtB⟩
  · exact ⟨_, gnS, gtS⟩
theorem two_of {W : World} (rest : List (String × DataW Unit)) (h : laidMet Tryd.prog (two.map (fun x => (x.1, errD x.2)) ++ rest) W) : ∃ eb es, IpErrs W eb eb es := by
  obtain ⟨ps, hv, hnd, hrows⟩ := h
  obtain ⟨az, -, -, -, hget⟩ := errs_of_laid two rest ps two_named hv hnd hrows
  obtain ⟨a1, -, h1, -⟩ := hget 0 _ rfl
  obtain ⟨a2, -, h2, -⟩ := hget 1 _ rfl
  exact ⟨a1, a2, rfl, by simpa using World.var?_cell gnB h1 0, by simpa using World.var?_cell gnS h2 0⟩
end Go.Proofs.YthehpnhjfnenoaaDoor
