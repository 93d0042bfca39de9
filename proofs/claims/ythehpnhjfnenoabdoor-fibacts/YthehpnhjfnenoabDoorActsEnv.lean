/-
  A list of acts among the arguments.
-/
import Derived.Test.YthehpnhjfnenoabDoorFibEnv
import Derived.Test.YthehpnhjfnenoabDoorActs1
namespace Go.Proofs.YthehpnhjfnenoabDoor
open Go.ChangeShapes Go.WideShapes Go.ChangeAt Go.RowKit Go.Joins Go.Deep

theorem cellsAct : Tryd.prog.cellsOf 56 = 5 := by kernel_rfl
theorem cellsSt : Tryd.prog.cellsOf 9 = 1 := by kernel_rfl
theorem cellsRS : Tryd.prog.cellsOf 31 = 1 := by kernel_rfl
section
variable {H : Type} {enc : TypeId × Value → H}
theorem trod_struct4 {P : Program} {w : World} {base : Nat} {spare : Nat → Bool} {held : Bool} {t : TypeId} {f0 f1 f2 f3 : Field} {fuel : Nat} {cs : List Value} {x : DataW H × List MemPlace} (ht : P.underlying t = some (.struct #[f0, f1, f2, f3])) (h : DataW.trod enc P w base spare held fuel t cs = some x) :
    ∃ y0 y1 y2 y3 n, DataW.trod enc P w base spare held n f0.type ((cs.drop f0.offset).take (P.cellsOf f0.type)) = some y0 ∧ DataW.trod enc P w base spare held n f1.type ((cs.drop f1.offset).take (P.cellsOf f1.type)) = some y1 ∧
      DataW.trod enc P w base spare held n f2.type ((cs.drop f2.offset).take (P.cellsOf f2.type)) = some y2 ∧ DataW.trod enc P w base spare held n f3.type ((cs.drop f3.offset).take (P.cellsOf f3.type)) = some y3 := by
  obtain ⟨xs, n, _, _, _, hlen, hf⟩ := DataW.trod_struct ht h
  match xs, hlen with
  | [y0, y1, y2, y3], _ => exact ⟨y0, y1, y2, y3, n, by simpa using hf 0 f0 rfl, by simpa using hf 1 f1 rfl, by simpa using hf 2 f2 rfl, by simpa using hf 3 f3 rfl⟩
set_option maxRecDepth 100000 in
theorem slice_shape {W : World} {fuel : Nat} {v : Value} {x : DataW H × List MemPlace} (h : DataW.trod enc Tryd.prog W 0 (fun _ => true) true fuel 31 [v] = some x) : ∃ q n c, v = .slice q n c := by
  rcases open_slice Tryd.underlying31 h with ⟨hcs, -⟩ | ⟨a, len', cap', m, n, D, Pl, hcs, -⟩
  · simp at hcs; exact ⟨_, _, _, hcs⟩
  · simp at hcs; exact ⟨_, _, _, hcs⟩
set_option maxRecDepth 100000 in
/-- A list of acts that came in. -/
theorem open_acts {W : World} {b0 : Nat} {v : Value} {d : DataW H} {ps : List MemPlace} (hv : Value.okWide Tryd.prog W .any b0 51 v) (h : DataW.Trod enc Tryd.prog W 0 (fun _ => true) true 51 v d ps) :
    ∃ (q : Option Addr) (A : List ActV) (cap : Nat), v = .slice q A.length cap ∧ Acts W q A ∧ A.length ≤ maxLen := by
  obtain ⟨a0, len, cap, rfl⟩ := okWide_slice Tryd.underlying51 hv
  obtain ⟨fuel, hf⟩ := h
  simp only [Value.cells] at hf
  rcases open_slice Tryd.underlying51 hf with ⟨hcs, -⟩ | ⟨a, len', cap', m, n, D, Pl, hcs, -, hl, hm, hmeq, -, hall⟩
  · simp at hcs
    obtain ⟨rfl, rfl, rfl⟩ := hcs
    exact ⟨none, [], 0, rfl, fun i hi => by simp at hi, by simp⟩
  · simp at hcs
    obtain ⟨rfl, rfl, rfl⟩ := hcs
    simp only [if_true] at hmeq
    subst hmeq
    have each : ∀ i, i < len → ∃ e : ActV, W.cell? (a.add (i * 5)) = some (.string e.kind) ∧ W.cell? (a.add (i * 5 + 1)) = some (.int .i64 e.a) ∧ W.cell? (a.add (i * 5 + 2)) = some (.int .i64 e.n) ∧ W.cell? (a.add (i * 5 + 3)) = some (.int .i64 e.hop) ∧ W.cell? (a.add (i * 5 + 4)) = some (.slice e.q e.l.length e.cap) ∧ Ents W e.q e.l := by
      intro i hi
      obtain ⟨cs', h1, h2⟩ := hall i (by omega)
      rw [cellsAct] at h1
      obtain ⟨-, hlen, hcell⟩ := World.cells?_some h1
      obtain ⟨y0, y1, y2, y3, k, g0, g1, g2, g3⟩ := trod_struct4 Tryd.underlying56 h2
      match cs', hlen with
      | [v0, v1, v2, v3, v4], _ =>
        have e0 := hcell 0 (by omega)
        have e1 := hcell 1 (by omega)
        have e2 := hcell 2 (by omega)
        have e3 := hcell 3 (by omega)
        have e4 := hcell 4 (by omega)
        rw [add_add] at e0 e1 e2 e3 e4
        simp only [cellsP, cellsI, cellsSt, cellsRS, List.drop_zero, List.take_succ_cons, List.take_zero, List.drop_succ_cons, Nat.add_zero] at g0 g1 g2 g3 e0 e1 e2 e3 e4
        obtain ⟨z0, z1, k2, -, -, f0, f1⟩ := trod_struct2 Tryd.underlying36 g1
        simp only [cellsI, List.drop_zero, List.take_succ_cons, List.take_zero, List.drop_succ_cons] at f0 f1
        obtain ⟨s, q0, -⟩ := DataW.trod_string Tryd.underlying9 g0
        obtain ⟨x0, q1, -, -⟩ := DataW.trod_int Tryd.underlying3 f0
        obtain ⟨x1, q2, -, -⟩ := DataW.trod_int Tryd.underlying3 f1
        obtain ⟨x2, q3, -, -⟩ := DataW.trod_int Tryd.underlying3 g2
        obtain ⟨sq, sn, sc, q4⟩ := slice_shape g3
        simp only [List.cons.injEq, and_true] at q0 q1 q2 q3
        subst q0 q1 q2 q3 q4
        obtain ⟨M, rfl, hM⟩ := ents_of_trod g3
        exact ⟨⟨s, x0, x1, x2, sq, sc, M⟩, by simpa using e0, by simpa using e1, by simpa using e2, by simpa using e3, by simpa using e4, hM⟩
    obtain ⟨f, hf⟩ : ∃ f : Nat → ActV, ∀ i, i < len → W.cell? (a.add (i * 5)) = some (.string (f i).kind) ∧ W.cell? (a.add (i * 5 + 1)) = some (.int .i64 (f i).a) ∧ W.cell? (a.add (i * 5 + 2)) = some (.int .i64 (f i).n) ∧ W.cell? (a.add (i * 5 + 3)) = some (.int .i64 (f i).hop) ∧ W.cell? (a.add (i * 5 + 4)) = some (.slice (f i).q (f i).l.length (f i).cap) ∧ Ents W (f i).q (f i).l := by
      refine ⟨fun i => if h : i < len then Classical.choose (each i h) else ⟨ByteArray.empty, 0, 0, 0, none, 0, []⟩, fun i hi => ?_⟩
      simp only [dif_pos hi]
      exact Classical.choose_spec (each i hi)
    refine ⟨some a, (List.range len).map f, m, by simp, fun i hi => ?_, by simp; omega⟩
    have hi' : i < len := by simpa using hi
    obtain ⟨b, o, spot⟩ := a
    have hspot : spot = none := by simpa [Addr.add] using World.cell?_spot (hf 0 (by omega)).1
    obtain ⟨c0, c1, c2, c3, c4, c5⟩ := hf i hi'
    rw [row_plain _ hspot] at c0 c1 c2 c3 c4
    refine ⟨b, o, by rw [hspot], ?_⟩
    simp only [List.getElem_map, List.getElem_range]
    exact ⟨c0, c1, c2, c3, c4, c5⟩
end
end Go.Proofs.YthehpnhjfnenoabDoor
