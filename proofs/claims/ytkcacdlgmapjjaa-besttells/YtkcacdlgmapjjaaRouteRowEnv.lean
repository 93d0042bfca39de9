/-
  Routes among the arguments.
-/
import Derived.Test.YtkcacdlgmapjjaaAttrRowEnv
import Derived.Test.YtkcacdlgmapjjaaRouteArgs
namespace Go.Proofs.Ytkcacdlgmapjjaa
open Go.ChangeShapes Go.WideShapes Go.ChangeAt Go.RowKit Go.Joins Go.Deep

theorem cellsPr : Try.prog.cellsOf 26 = 2 := by kernel_rfl
theorem cellsRo : Try.prog.cellsOf 31 = 8 := by kernel_rfl
section
variable {H : Type} {enc : TypeId × Value → H}
theorem wTrod2 {P : Program} {w : World} {base : Nat} {spare : Nat → Bool} {held : Bool} {t : TypeId} {f0 f1 : Field} {fuel : Nat} {cs : List Value} {x : DataW H × List MemPlace} (ht : P.underlying t = some (.struct #[f0, f1])) (h : DataW.trod enc P w base spare held fuel t cs = some x) :
    ∃ y0 y1 n, DataW.trod enc P w base spare held n f0.type ((cs.drop f0.offset).take (P.cellsOf f0.type)) = some y0 ∧ DataW.trod enc P w base spare held n f1.type ((cs.drop f1.offset).take (P.cellsOf f1.type)) = some y1 := by
  obtain ⟨xs, n, _, _, _, hlen, hf⟩ := DataW.trod_struct ht h
  match xs, hlen with
  | [y0, y1], _ => exact ⟨y0, y1, n, by simpa using hf 0 f0 rfl, by simpa using hf 1 f1 rfl⟩
theorem wTrod3 {P : Program} {w : World} {base : Nat} {spare : Nat → Bool} {held : Bool} {t : TypeId} {f0 f1 f2 : Field} {fuel : Nat} {cs : List Value} {x : DataW H × List MemPlace} (ht : P.underlying t = some (.struct #[f0, f1, f2])) (h : DataW.trod enc P w base spare held fuel t cs = some x) :
    ∃ y0 y1 y2 n, DataW.trod enc P w base spare held n f0.type ((cs.drop f0.offset).take (P.cellsOf f0.type)) = some y0 ∧ DataW.trod enc P w base spare held n f1.type ((cs.drop f1.offset).take (P.cellsOf f1.type)) = some y1 ∧
      DataW.trod enc P w base spare held n f2.type ((cs.drop f2.offset).take (P.cellsOf f2.type)) = some y2 := by
  obtain ⟨xs, n, _, _, _, hlen, hf⟩ := DataW.trod_struct ht h
  match xs, hlen with
  | [y0, y1, y2], _ => exact ⟨y0, y1, y2, n, by simpa using hf 0 f0 rfl, by simpa using hf 1 f1 rfl, by simpa using hf 2 f2 rfl⟩
theorem wAdd_add (a : Addr) (i j : Nat) : (a.add i).add j = a.add (i + j) := by
  unfold Addr.add
  split <;> split <;> simp_all [Nat.add_assoc]
theorem wRow_plain {a : Addr} (i : Nat) (h : a.spot = none) : a.add i = ⟨a.block, a.off + i, none⟩ := by
  obtain ⟨b, o, s⟩ := a
  simp only at h
  subst h
  exact Addr.add_lit b o i
theorem wSpot {W : World} {a : Addr} {v : Value} (h : W.cell? (a.add 0) = some v) : a.spot = none := by
  have := World.cell?_spot h
  simpa [Addr.add] using this
set_option maxRecDepth 100000 in
theorem intsW_of_trod {W : World} {fuel : Nat} {v : Value} {x : DataW H × List MemPlace} (h : DataW.trod enc Try.prog W 0 (fun _ => true) true fuel 27 [v] = some x) :
    ∃ p L c, v = .slice p L.length c ∧ Ints W p L ∧ KindW p L.length c := by
  rcases open_ints Try.underlying27 Try.underlying3 cellsI h with ⟨hcs, -⟩ | ⟨a, len, cap, zs, hcs, -, h1, h2, h3, -, hall, -⟩
  · simp at hcs
    subst hcs
    exact ⟨none, [], 0, rfl, ints_nil _ _, .inl ⟨rfl, rfl, rfl⟩⟩
  · simp at hcs
    subst hcs
    simp only [if_true] at h3
    have hl : (zs.take len).length = len := by simp; omega
    refine ⟨some a, zs.take len, cap, by rw [hl], fun i hi => ?_, .inr ⟨a, rfl⟩⟩
    have hi' : i < len := by rw [hl] at hi; exact hi
    have hc := hall i (by omega)
    have hsp : a.spot = none := wSpot (hall 0 (by omega))
    obtain ⟨b, o, spot⟩ := a
    simp only at hsp
    subst hsp
    refine ⟨b, o, rfl, ?_⟩
    rw [Addr.add_lit] at hc
    rw [hc]
    simp [List.getD, show i < zs.length by omega]
set_option maxRecDepth 100000 in
theorem routesW_of_trod {W : World} {fuel : Nat} {v : Value} {x : DataW H × List MemPlace} (h : DataW.trod enc Try.prog W 0 (fun _ => true) true fuel 22 [v] = some x) :
    ∃ p L c, v = .slice p L.length c ∧ RoutesArg W p L := by
  rcases open_slice Try.underlying22 h with ⟨hcs, -⟩ | ⟨a, len', cap', m, n, D, Pl, hcs, -, hl, hm, hmeq, -, hall⟩
  · simp at hcs
    subst hcs
    exact ⟨none, [], 0, rfl, fun i hi => by simp at hi⟩
  · simp at hcs
    subst hcs
    simp only [if_true] at hmeq
    subst hmeq
    have each : ∀ i, i < len' → ∃ r : Ro, a.spot = none ∧ RouteArg W a.block (a.off + i * 8) r := by
      intro i hi
      obtain ⟨cs', h1, h2⟩ := hall i (by omega)
      rw [cellsRo] at h1
      obtain ⟨-, hlen, hcell⟩ := World.cells?_some h1
      obtain ⟨y0, y1, y2, k, g0, g1, g2⟩ := wTrod3 Try.underlying31 h2
      match cs', hlen with
      | [v0, v1, v2, v3, v4, v5, v6, v7], _ =>
        have e0 := hcell 0 (by omega)
        have e1 := hcell 1 (by omega)
        have e2 := hcell 2 (by omega)
        have e3 := hcell 3 (by omega)
        have e4 := hcell 4 (by omega)
        have e5 := hcell 5 (by omega)
        have e6 := hcell 6 (by omega)
        have e7 := hcell 7 (by omega)
        rw [wAdd_add] at e0 e1 e2 e3 e4 e5 e6 e7
        simp only [cellsPr, cellsAt, cellsI, List.drop_zero, List.take_succ_cons, List.take_zero, List.drop_succ_cons, Nat.add_zero] at g0 g1 g2 e0
        obtain ⟨z0, z1, k0, f0, f1⟩ := wTrod2 Try.underlying26 g0
        obtain ⟨z2, z3, z4, z5, z6, k1, f2, f3, f4, f5, f6⟩ := trod_struct5 Try.underlying29 g1
        simp only [cellsI, cellsSI, List.drop_zero, List.take_succ_cons, List.take_zero, List.drop_succ_cons] at f0 f1 f2 f3 f4 f5 f6
        obtain ⟨x0, q0, -, -⟩ := DataW.trod_int Try.underlying3 f0
        obtain ⟨x1, q1, -, -⟩ := DataW.trod_int Try.underlying3 f1
        obtain ⟨p2, P2, c2, q2, i2, w2⟩ := intsW_of_trod f2
        obtain ⟨x3, q3, -, -⟩ := DataW.trod_int Try.underlying3 f3
        obtain ⟨x4, q4, -, -⟩ := DataW.trod_int Try.underlying3 f4
        obtain ⟨x5, q5, -, -⟩ := DataW.trod_int Try.underlying3 f5
        obtain ⟨p6, P6, c6, q6, i6, w6⟩ := intsW_of_trod f6
        obtain ⟨x7, q7, -, -⟩ := DataW.trod_int Try.underlying3 g2
        simp only [List.cons.injEq, and_true] at q0 q1 q3 q4 q5 q7
        subst q0 q1 q2 q3 q4 q5 q6 q7
        have hspot : a.spot = none := by
          obtain ⟨cs0, h10, -⟩ := hall 0 (by omega)
          rw [cellsRo] at h10
          obtain ⟨-, hlen0, hcell0⟩ := World.cells?_some h10
          have e := hcell0 0 (by omega)
          rw [wAdd_add] at e
          match cs0, hlen0 with
          | u :: _, _ => exact wSpot (by simpa using e)
        rw [wRow_plain _ hspot] at e0 e1 e2 e3 e4 e5 e6 e7
        exact ⟨⟨(x0, x1), ⟨P2, x3, x4, x5, P6⟩, x7⟩, hspot, p2, c2, p6, c6, by simpa using e0, by simpa [Nat.add_assoc] using e1, by simpa [Nat.add_assoc] using e2, by simpa [Nat.add_assoc] using e3, by simpa [Nat.add_assoc] using e4, by simpa [Nat.add_assoc] using e5, by simpa [Nat.add_assoc] using e6, by simpa [Nat.add_assoc] using e7, i2, i6, w2, w6⟩
    refine ⟨some a, (List.range len').map (fun i => if h : i < len' then Classical.choose (each i h) else ro0), m, by simp, fun i hi => ?_⟩
    have hi' : i < len' := by simpa using hi
    have hc := Classical.choose_spec (each i hi')
    obtain ⟨b, o, spot⟩ := a
    obtain ⟨hspot, hra⟩ := hc
    simp only at hspot
    refine ⟨b, o, by rw [hspot], ?_⟩
    simp only [List.getElem_map, List.getElem_range, dif_pos hi']
    exact hra
set_option maxRecDepth 100000 in
/-- A slice of routes that came in. -/
theorem open_routes {W : World} {b0 : Nat} {v : Value} {d : DataW H} {ps : List MemPlace} (hv : Value.okWide Try.prog W .any b0 22 v) (h : DataW.Trod enc Try.prog W 0 (fun _ => true) true 22 v d ps) :
    ∃ p L c, v = .slice p L.length c ∧ RoutesArg W p L := by
  obtain ⟨a0, len, cap, rfl⟩ := okWide_slice Try.underlying22 hv
  obtain ⟨fuel, hf⟩ := h
  simp only [Value.cells] at hf
  exact routesW_of_trod hf
set_option maxRecDepth 100000 in
/-- A route that came in. -/
theorem open_route {W : World} {b0 : Nat} {v : Value} {d : DataW H} {ps : List MemPlace} (hv : Value.okWide Try.prog W .any b0 31 v) (h : DataW.Trod enc Try.prog W 0 (fun _ => true) true 31 v d ps) :
    ∃ x : RV, v = .agg (enc8 x).toArray ∧ Ints W x.p x.r.att.path ∧ Ints W x.q x.r.att.tags := by
  have hv' : ∃ cs, v = .agg cs ∧ cs.size = Try.prog.cellsOf 31 ∧ Row.okWide Try.prog W .any b0 31 cs := by
    simpa only [Value.okWide, Try.underlying31] using hv
  obtain ⟨cs, rfl, hsz, -⟩ := hv'
  rw [cellsRo] at hsz
  obtain ⟨l⟩ := cs
  obtain ⟨fuel, hf⟩ := h
  obtain ⟨y0, y1, y2, n, g0, g1, g2⟩ := wTrod3 Try.underlying31 hf
  match l, hsz with
  | [v0, v1, v2, v3, v4, v5, v6, v7], _ =>
    simp only [Value.cells, cellsPr, cellsAt, cellsI, List.drop_zero, List.take_succ_cons, List.take_zero, List.drop_succ_cons] at g0 g1 g2
    obtain ⟨z0, z1, k0, f0, f1⟩ := wTrod2 Try.underlying26 g0
    obtain ⟨z2, z3, z4, z5, z6, k1, f2, f3, f4, f5, f6⟩ := trod_struct5 Try.underlying29 g1
    simp only [cellsI, cellsSI, List.drop_zero, List.take_succ_cons, List.take_zero, List.drop_succ_cons] at f0 f1 f2 f3 f4 f5 f6
    obtain ⟨x0, q0, -, -⟩ := DataW.trod_int Try.underlying3 f0
    obtain ⟨x1, q1, -, -⟩ := DataW.trod_int Try.underlying3 f1
    obtain ⟨p2, P2, c2, q2, i2, w2⟩ := intsW_of_trod f2
    obtain ⟨x3, q3, -, -⟩ := DataW.trod_int Try.underlying3 f3
    obtain ⟨x4, q4, -, -⟩ := DataW.trod_int Try.underlying3 f4
    obtain ⟨x5, q5, -, -⟩ := DataW.trod_int Try.underlying3 f5
    obtain ⟨p6, P6, c6, q6, i6, w6⟩ := intsW_of_trod f6
    obtain ⟨x7, q7, -, -⟩ := DataW.trod_int Try.underlying3 g2
    simp only [List.cons.injEq, and_true] at q0 q1 q3 q4 q5 q7
    subst q0 q1 q2 q3 q4 q5 q6 q7
    exact ⟨⟨⟨(x0, x1), ⟨P2, x3, x4, x5, P6⟩, x7⟩, p2, c2, p6, c6⟩, rfl, i2, i6⟩
end
end Go.Proofs.Ytkcacdlgmapjjaa
