/-
  From a row's condition to what package attr's walks lean on; what is told of a route, among the arguments.
-/
import Derived.Test.YtkcacdlgmapjjaaRowBase
import Derived.Test.YtkcacdlgmapjjaaLaidErrs
import Derived.Test.YtkcacdlgmapjjaaAttrEnv
import Derived.Test.YtkcacdlgmapjjaaAttrOwn
import Derived.Deep.Slices
import Derived.Carry
import Derived.ChangeSlices
namespace Go.Proofs.Ytkcacdlgmapjjaa
open Go.ChangeShapes Go.WideShapes Go.ChangeAt Go.RowKit Go.Joins Go.Deep

theorem laidOutF : laidOutB Try.prog = true := by kernel_rfl
theorem cellsI : Try.prog.cellsOf 3 = 1 := by kernel_rfl
theorem cellsSI : Try.prog.cellsOf 27 = 1 := by kernel_rfl
theorem cellsAt : Try.prog.cellsOf 29 = 5 := by kernel_rfl
theorem typesAt : Try.prog.cellTypes Try.prog.depth 29 = some [27, 3, 3, 3, 27] := by kernel_rfl
section
variable {H : Type} {enc : TypeId × Value → H}
set_option maxRecDepth 100000 in
theorem ints_of_trod {W : World} {fuel b0 : Nat} {v : Value} {x : DataW H × List MemPlace} (h : DataW.trod enc Try.prog W 0 (fun _ => true) true fuel 27 [v] = some x) (ho : Cell.okWide Try.prog W .any b0 27 v) :
    ∃ p L c, v = .slice p L.length c ∧ Ints W p L ∧ Kind1 p L.length c := by
  rcases open_ints Try.underlying27 Try.underlying3 cellsI h with ⟨hcs, -⟩ | ⟨a, len, cap, zs, hcs, -, h1, h2, h3, -, hall, -⟩
  · simp at hcs
    subst hcs
    exact ⟨none, [], 0, rfl, ints_nil _ _, .inl ⟨rfl, rfl, rfl⟩⟩
  · simp at hcs
    subst hcs
    simp only [if_true] at h3
    have hsp : a.spot = none := by
      simp only [Cell.okWide, Try.underlying27, Cell.ok, World.has] at ho
      exact ho.2.2.2.1
    obtain ⟨b, o, spot⟩ := a
    simp only at hsp
    subst hsp
    have hl : (zs.take len).length = len := by simp; omega
    refine ⟨some ⟨b, o, none⟩, zs.take len, cap, by rw [hl], fun i hi => ⟨b, o, rfl, ?_⟩, .inr ⟨⟨b, o, rfl⟩, by omega, h2⟩⟩
    have hi' : i < len := by rw [hl] at hi; exact hi
    have := hall i (by omega)
    rw [Addr.add_lit] at this
    rw [this]
    simp [List.getD, show i < zs.length by omega]
theorem trod_struct5 {P : Program} {w : World} {base : Nat} {spare : Nat → Bool} {held : Bool} {t : TypeId} {f0 f1 f2 f3 f4 : Field} {fuel : Nat} {cs : List Value} {x : DataW H × List MemPlace} (ht : P.underlying t = some (.struct #[f0, f1, f2, f3, f4])) (h : DataW.trod enc P w base spare held fuel t cs = some x) :
    ∃ y0 y1 y2 y3 y4 n, DataW.trod enc P w base spare held n f0.type ((cs.drop f0.offset).take (P.cellsOf f0.type)) = some y0 ∧ DataW.trod enc P w base spare held n f1.type ((cs.drop f1.offset).take (P.cellsOf f1.type)) = some y1 ∧
      DataW.trod enc P w base spare held n f2.type ((cs.drop f2.offset).take (P.cellsOf f2.type)) = some y2 ∧ DataW.trod enc P w base spare held n f3.type ((cs.drop f3.offset).take (P.cellsOf f3.type)) = some y3 ∧ DataW.trod enc P w base spare held n f4.type ((cs.drop f4.offset).take (P.cellsOf f4.type)) = some y4 := by
  obtain ⟨xs, n, _, _, _, hlen, hf⟩ := DataW.trod_struct ht h
  match xs, hlen with
  | [y0, y1, y2, y3, y4], _ => exact ⟨y0, y1, y2, y3, y4, n, by simpa using hf 0 f0 rfl, by simpa using hf 1 f1 rfl, by simpa using hf 2 f2 rfl, by simpa using hf 3 f3 rfl, by simpa using hf 4 f4 rfl⟩
set_option maxRecDepth 100000 in
/-- What is told of a route, that came in. -/
theorem open_attr {W : World} {b0 : Nat} {v : Value} {d : DataW H} {ps : List MemPlace} (hv : Value.okWide Try.prog W .any b0 29 v) (h : DataW.Trod enc Try.prog W 0 (fun _ => true) true 29 v d ps) :
    ∃ A, AttrK W v A := by
  have hv' : ∃ cs, v = .agg cs ∧ cs.size = Try.prog.cellsOf 29 ∧ Row.okWide Try.prog W .any b0 29 cs := by
    simpa only [Value.okWide, Try.underlying29] using hv
  obtain ⟨cs, rfl, hsz, ts, hts, -, hcell⟩ := hv'
  obtain rfl := Option.some.inj (typesAt.symm.trans hts)
  rw [cellsAt] at hsz
  obtain ⟨l⟩ := cs
  obtain ⟨fuel, hf⟩ := h
  obtain ⟨y0, y1, y2, y3, y4, n, g0, g1, g2, g3, g4⟩ := trod_struct5 Try.underlying29 hf
  match l, hsz with
  | [c0, c1, c2, c3, c4], _ =>
    simp only [Value.cells, cellsI, cellsSI, List.drop_zero, List.take_succ_cons, List.take_zero, List.drop_succ_cons] at g0 g1 g2 g3 g4
    obtain ⟨p, P, cp, rfl, i1, k1⟩ := ints_of_trod g0 (by obtain ⟨u, hu, ho⟩ := hcell 0 c0 rfl; obtain rfl : 27 = u := (by simpa using hu); exact ho)
    obtain ⟨f, q1, -, -⟩ := DataW.trod_int Try.underlying3 g1
    obtain ⟨m, q2, -, -⟩ := DataW.trod_int Try.underlying3 g2
    obtain ⟨o, q3, -, -⟩ := DataW.trod_int Try.underlying3 g3
    obtain ⟨q, T, cq, rfl, i2, k2⟩ := ints_of_trod g4 (by obtain ⟨u, hu, ho⟩ := hcell 4 c4 rfl; obtain rfl : 27 = u := (by simpa using hu); exact ho)
    simp only [List.cons.injEq, and_true] at q1 q2 q3
    subst q1 q2 q3
    exact ⟨⟨P, f, m, o, T⟩, p, cp, q, cq, rfl, i1, i2, k1, k2⟩
end
end Go.Proofs.Ytkcacdlgmapjjaa
