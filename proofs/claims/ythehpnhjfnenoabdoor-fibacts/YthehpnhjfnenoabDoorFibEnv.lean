/-
  From a row's condition to what package fib's walks lean on; a list of entries among the arguments.
-/
import Derived.Test.YthehpnhjfnenoabDoorRowBase
import Derived.Test.YthehpnhjfnenoabDoorLaidErrs
import Derived.Test.YthehpnhjfnenoabDoorFibLaw
import Derived.Deep.Slices
import Derived.Carry
namespace Go.Proofs.YthehpnhjfnenoabDoor
open Go.ChangeShapes Go.WideShapes Go.ChangeAt Go.RowKit Go.Joins Go.Deep

theorem laidOutF : laidOutB Tryd.prog = true := by kernel_rfl
theorem cellsI : Tryd.prog.cellsOf 3 = 1 := by kernel_rfl
theorem cellsRE : Tryd.prog.cellsOf 38 = 3 := by kernel_rfl
theorem row_plain {b o : Nat} {spot : Option Nat} (i : Nat) (h : spot = none) : (⟨b, o, spot⟩ : Addr).add i = ⟨b, o + i, none⟩ := by
  subst h
  unfold Addr.add
  split
  · rename_i h; subst h; rfl
  · rfl
section
variable {H : Type} {enc : TypeId × Value → H}
set_option maxRecDepth 100000 in
/-- A list of entries that came in, by its cells. -/
theorem ents_of_trod {W : World} {fuel : Nat} {a0 : Option Addr} {len cap : Nat} {x : DataW H × List MemPlace} (h : DataW.trod enc Tryd.prog W 0 (fun _ => true) true fuel 31 [.slice a0 len cap] = some x) :
    ∃ L : List Ent, L.length = len ∧ Ents W a0 L := by
  rcases open_slice Tryd.underlying31 h with ⟨hcs, -⟩ | ⟨a, len', cap', m, n, D, Pl, hcs, -, hl, hm, hmeq, -, hall⟩
  · simp at hcs
    obtain ⟨rfl, rfl, rfl⟩ := hcs
    exact ⟨[], rfl, ents_nil _ _⟩
  · simp at hcs
    obtain ⟨rfl, rfl, rfl⟩ := hcs
    simp only [if_true] at hmeq
    subst hmeq
    have each : ∀ i, i < len → ∃ e : Ent, W.cell? (a.add (i * 3)) = some (.int .i64 e.1.1) ∧ W.cell? (a.add (i * 3 + 1)) = some (.int .i64 e.1.2) ∧ W.cell? (a.add (i * 3 + 2)) = some (.int .i64 e.2) := by
      intro i hi
      obtain ⟨cs', h1, h2⟩ := hall i (by omega)
      rw [cellsRE] at h1
      obtain ⟨-, hlen, hcell⟩ := World.cells?_some h1
      obtain ⟨y0, y1, k, -, -, g0, g1⟩ := trod_struct2 Tryd.underlying38 h2
      match cs', hlen with
      | [v0, v1, v2], _ =>
        have e0 := hcell 0 (by omega)
        have e1 := hcell 1 (by omega)
        have e2 := hcell 2 (by omega)
        rw [add_add] at e0 e1 e2
        simp only [cellsP, cellsI, List.drop_zero, List.take_succ_cons, List.take_zero, List.drop_succ_cons, Nat.add_zero] at g0 g1 e0 e1 e2
        obtain ⟨z0, z1, k2, -, -, f0, f1⟩ := trod_struct2 Tryd.underlying36 g0
        simp only [cellsI, List.drop_zero, List.take_succ_cons, List.take_zero, List.drop_succ_cons] at f0 f1
        obtain ⟨x0, q0, -, -⟩ := DataW.trod_int Tryd.underlying3 f0
        obtain ⟨x1, q1, -, -⟩ := DataW.trod_int Tryd.underlying3 f1
        obtain ⟨x2, q2, -, -⟩ := DataW.trod_int Tryd.underlying3 g1
        simp only [List.cons.injEq, and_true] at q0 q1 q2
        subst q0 q1 q2
        exact ⟨((x0, x1), x2), by simpa using e0, by simpa using e1, by simpa using e2⟩
    obtain ⟨f, hf⟩ : ∃ f : Nat → Ent, ∀ i, i < len → W.cell? (a.add (i * 3)) = some (.int .i64 (f i).1.1) ∧ W.cell? (a.add (i * 3 + 1)) = some (.int .i64 (f i).1.2) ∧ W.cell? (a.add (i * 3 + 2)) = some (.int .i64 (f i).2) := by
      refine ⟨fun i => if h : i < len then Classical.choose (each i h) else ((0, 0), 0), fun i hi => ?_⟩
      simp only [dif_pos hi]
      exact Classical.choose_spec (each i hi)
    refine ⟨(List.range len).map f, by simp, fun i hi => ?_⟩
    have hi' : i < len := by simpa using hi
    obtain ⟨b, o, spot⟩ := a
    have hspot : spot = none := by simpa [Addr.add] using World.cell?_spot (hf 0 (by omega)).1
    obtain ⟨c0, c1, c2⟩ := hf i hi'
    rw [row_plain _ hspot] at c0 c1 c2
    refine ⟨b, o, by rw [hspot], ?_⟩
    simp only [List.getElem_map, List.getElem_range]
    exact ⟨c0, c1, c2⟩
set_option maxRecDepth 100000 in
theorem open_ents {W : World} {b0 : Nat} {v : Value} {d : DataW H} {ps : List MemPlace} (hv : Value.okWide Tryd.prog W .any b0 31 v) (h : DataW.Trod enc Tryd.prog W 0 (fun _ => true) true 31 v d ps) :
    ∃ (q : Option Addr) (L : List Ent) (cap : Nat), v = .slice q L.length cap ∧ Ents W q L := by
  obtain ⟨a0, len, cap, rfl⟩ := okWide_slice Tryd.underlying31 hv
  obtain ⟨fuel, hf⟩ := h
  simp only [Value.cells] at hf
  obtain ⟨L, rfl, hL⟩ := ents_of_trod hf
  exact ⟨a0, L, cap, rfl, hL⟩
end
/-- every package variable has its block. -/
theorem ng_of {W : World} (h : W.ShapedOpen Tryd.prog) : 12 ≤ W.heap.size := by
  have hz : (((begin Tryd.prog (fun _ _ => 0) default).world.heap[12 - 1]?).bind Obj.row?).isSome = true := by kernel_rfl
  obtain ⟨⟨zero, t⟩, hr⟩ := Option.isSome_iff_exists.1 hz
  obtain ⟨cs, hc, -⟩ := h.1 (12 - 1) zero t (of_decide_eq_true (by kernel_rfl)) hr
  have := (Array.getElem?_eq_some_iff.1 hc).1
  omega
def textB : List UInt8 := [104, 101, 114, 101, 112, 97, 116, 104, 58, 32, 98, 111, 117, 110, 100]
def textS : List UInt8 := [104, 101, 114, 101, 112, 97, 116, 104, 58, 32, 115, 104, 97, 112, 101]
def textN : List UInt8 := [104, 101, 114, 101, 112, 97, 116, 104, 58, 32, 110, 111, 110, 101]
def textE : List UInt8 := [104, 101, 114, 101, 112, 97, 116, 104, 58, 32, 101, 120, 105, 115, 116]
def textF : List UInt8 := [104, 101, 114, 101, 112, 97, 116, 104, 58, 32, 102, 117, 108, 108]
theorem gnFB : Tryd.prog.globalNamed "herepath/api.ErrBound" = some 2 := by kernel_rfl
theorem gnFS : Tryd.prog.globalNamed "herepath/api.ErrShape" = some 3 := by kernel_rfl
theorem gnFN : Tryd.prog.globalNamed "herepath/api.ErrNone" = some 1 := by kernel_rfl
theorem gnFE : Tryd.prog.globalNamed "herepath/api.ErrExist" = some 4 := by kernel_rfl
theorem gnFF : Tryd.prog.globalNamed "herepath/api.ErrFull" = some 0 := by kernel_rfl
theorem gtFB : (Tryd.prog.globals[2]?).map (·.type) = some 25 := by kernel_rfl
theorem gtFS : (Tryd.prog.globals[3]?).map (·.type) = some 25 := by kernel_rfl
theorem gtFN : (Tryd.prog.globals[1]?).map (·.type) = some 25 := by kernel_rfl
theorem gtFE : (Tryd.prog.globals[4]?).map (·.type) = some 25 := by kernel_rfl
theorem gtFF : (Tryd.prog.globals[0]?).map (·.type) = some 25 := by kernel_rfl
def four : List (String × List UInt8) := [("herepath/api.ErrBound", textB), ("herepath/api.ErrShape", textS), ("herepath/api.ErrNone", textN), ("herepath/api.ErrFull", textF)]
def five : List (String × List UInt8) := [("herepath/api.ErrBound", textB), ("herepath/api.ErrShape", textS), ("herepath/api.ErrNone", textN), ("herepath/api.ErrExist", textE), ("herepath/api.ErrFull", textF)]
theorem four_named : ∀ x ∈ four, ∃ g, Tryd.prog.globalNamed x.1 = some g ∧ (Tryd.prog.globals[g]?).map (·.type) = some 25 := by
  intro x hx
  simp only [four, List.mem_cons, List.not_mem_nil, or_false] at hx
  rcases hx with rfl | rfl | rfl | rfl
  · exact ⟨_, gnFB, gtFB⟩
  · exact ⟨_, gnFS, gtFS⟩
  · exact ⟨_, gnFN, gtFN⟩
  · exact ⟨_, gnFF, gtFF⟩
theorem five_named : ∀ x ∈ five, ∃ g, Tryd.prog.globalNamed x.1 = some g ∧ (Tryd.prog.globals[g]?).map (·.type) = some 25 := by
  intro x hx
  simp only [five, List.mem_cons, List.not_mem_nil, or_false] at hx
  rcases hx with rfl | rfl | rfl | rfl | rfl
  · exact ⟨_, gnFB, gtFB⟩
  · exact ⟨_, gnFS, gtFS⟩
  · exact ⟨_, gnFN, gtFN⟩
  · exact ⟨_, gnFE, gtFE⟩
  · exact ⟨_, gnFF, gtFF⟩
/-- addresses by their numbers. -/
def addrs (t b s k n e f : Addr) : Nat → Addr
  | 0 => t
  | 1 => b
  | 2 => s
  | 3 => k
  | 4 => n
  | 5 => e
  | _ => f
theorem four_of {W : World} (h : laidMet Tryd.prog (four.map (fun x => (x.1, errD x.2)) ++ []) W) : ∃ E, FibErrs W E := by
  obtain ⟨ps, hv, hnd, hrows⟩ := h
  obtain ⟨az, -, -, -, hget⟩ := errs_of_laid four [] ps four_named hv hnd hrows
  obtain ⟨a1, -, h1, -⟩ := hget 0 _ rfl
  obtain ⟨a2, -, h2, -⟩ := hget 1 _ rfl
  obtain ⟨a3, -, h3, -⟩ := hget 2 _ rfl
  obtain ⟨a4, -, h4, -⟩ := hget 3 _ rfl
  exact ⟨addrs a1 a1 a2 a1 a3 a1 a4, by simpa [addrs] using World.var?_cell gnFB h1 0, by simpa [addrs] using World.var?_cell gnFS h2 0, by simpa [addrs] using World.var?_cell gnFN h3 0, by simpa [addrs] using World.var?_cell gnFF h4 0⟩
theorem five_of {W : World} (h : laidMet Tryd.prog (five.map (fun x => (x.1, errD x.2)) ++ []) W) : ∃ E, FibErrs W E ∧ W.cell? ⟨4, 0, none⟩ = some (.iface 180 (.pointer (some (E 5)))) := by
  obtain ⟨ps, hv, hnd, hrows⟩ := h
  obtain ⟨az, -, -, -, hget⟩ := errs_of_laid five [] ps five_named hv hnd hrows
  obtain ⟨a1, -, h1, -⟩ := hget 0 _ rfl
  obtain ⟨a2, -, h2, -⟩ := hget 1 _ rfl
  obtain ⟨a3, -, h3, -⟩ := hget 2 _ rfl
  obtain ⟨a4, -, h4, -⟩ := hget 3 _ rfl
  obtain ⟨a5, -, h5, -⟩ := hget 4 _ rfl
  exact ⟨addrs a1 a1 a2 a1 a3 a4 a5, ⟨by simpa [addrs] using World.var?_cell gnFB h1 0, by simpa [addrs] using World.var?_cell gnFS h2 0, by simpa [addrs] using World.var?_cell gnFN h3 0, by simpa [addrs] using World.var?_cell gnFF h5 0⟩, by simpa [addrs] using World.var?_cell gnFE h4 0⟩
end Go.Proofs.YthehpnhjfnenoabDoor
