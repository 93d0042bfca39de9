/-
  A message among the arguments.
-/
import Derived.Test.YtbfdgflbflajdaaGreatDoorGD
import Derived.Test.YtbfdgflbflajdaaGreatDoorWireOwn
namespace Go.Proofs.YtbfdgflbflajdaaGreatDoor
open Go.ChangeShapes Go.WideShapes Go.ChangeAt Go.RowKit Go.Joins Go.Deep

theorem cellsPr : Tryz.prog.cellsOf 65 = 2 := by kernel_rfl
theorem cellsRo : Tryz.prog.cellsOf 67 = 8 := by kernel_rfl
theorem cellsStr9 : Tryz.prog.cellsOf 9 = 1 := by kernel_rfl
theorem cellsSP : Tryz.prog.cellsOf 52 = 1 := by kernel_rfl
theorem cellsSR : Tryz.prog.cellsOf 53 = 1 := by kernel_rfl
theorem cellsMsg : Tryz.prog.cellsOf 55 = 4 := by kernel_rfl
theorem typesMsg : Tryz.prog.cellTypes Tryz.prog.depth 55 = some [9, 3, 52, 53] := by kernel_rfl
section
variable {H : Type} {enc : TypeId × Value → H}
theorem wTrod2 {P : Program} {w : World} {base : Nat} {spare : Nat → Bool} {held : Bool} {t : TypeId} {f0 f1 : Field} {fuel : Nat} {cs : List Value} {x : DataW H × List MemPlace} (ht : P.underlying t = some (.struct #[f0, f1])) (h : DataW.trod enc P w base spare held fuel t cs = some x) :
    ∃ y0 y1 n, DataW.trod enc P w base spare held n f0.type ((cs.drop f0.offset).take (P.cellsOf f0.type)) = some y0 ∧ DataW.trod enc P w base spare held n f1.type ((cs.drop f1.offset).take (P.cellsOf f1.type)) = some y1 := by
  obtain ⟨xs, n, _, _, _, hlen, hf⟩ := DataW.trod_struct ht h
  match xs, hlen with
  | [y0, y1], _ => exact ⟨y0, y1, n, by simpa using hf 0 f0 rfl, by simpa using hf 1 f1 rfl⟩
theorem wTrod3 {P : Program} {w : World} {base : Nat} {spare : Nat → Bool} {held : Bool} {t : TypeId} {f0 f1 f2 : Field} {fuel : Nat} {cs : List Value} {x : DataW H × List MemPlace} (ht : P.underlying t = some (.struct #[f0, f1, f2])) (h : DataW.trod enc P w base spare held fuel t cs = some x) :
    ∃ y0 y1 y2 n, DataW.trod enc P w base spare held n f0.type ((cs.drop f0.offset).take (P.cellsOf f0.type)) = some y0 ∧ DataW.trod enc P w base spare held n f1.type ((cs.drop f1.offset).take (P.cellsOf f1.type)) = some y1 ∧
      DataW.trod enc P w base spare held n f2.type ((cs.drop f2.offset).take (P.cellsOf f2.type)) = some y2 := by
  obtain ⟨xs, n, _, _, _, hlen, hf⟩ := DataW.trod_struct ht h
  match xs, hlen with
  | [y0, y1, y2], _ => exact ⟨y0, y1, y2, n, by simpa using hf 0 f0 rfl, by simpa using hf 1 f1 rfl, by simpa using hf 2 f2 rfl⟩
theorem wTrod4 {P : Program} {w : World} {base : Nat} {spare : Nat → Bool} {held : Bool} {t : TypeId} {f0 f1 f2 f3 : Field} {fuel : Nat} {cs : List Value} {x : DataW H × List MemPlace} (ht : P.underlying t = some (.struct #[f0, f1, f2, f3])) (h : DataW.trod enc P w base spare held fuel t cs = some x) :
    ∃ y0 y1 y2 y3 n, DataW.trod enc P w base spare held n f0.type ((cs.drop f0.offset).take (P.cellsOf f0.type)) = some y0 ∧ DataW.trod enc P w base spare held n f1.type ((cs.drop f1.offset).take (P.cellsOf f1.type)) = some y1 ∧
      DataW.trod enc P w base spare held n f2.type ((cs.drop f2.offset).take (P.cellsOf f2.type)) = some y2 ∧ DataW.trod enc P w base spare held n f3.type ((cs.drop f3.offset).take (P.cellsOf f3.type)) = some y3 := by
  obtain ⟨xs, n, _, _, _, hlen, hf⟩ := DataW.trod_struct ht h
  match xs, hlen with
  | [y0, y1, y2, y3], _ => exact ⟨y0, y1, y2, y3, n, by simpa using hf 0 f0 rfl, by simpa using hf 1 f1 rfl, by simpa using hf 2 f2 rfl, by simpa using hf 3 f3 rfl⟩
theorem wAdd_add (a : Addr) (i j : Nat) : (a.add i).add j = a.add (i + j) := by
  unfold Addr.add
  split <;> split <;> simp_all [Nat.add_assoc]
theorem wRow_plain {a : Addr} (i : Nat) (h : a.spot = none) : a.add i = ⟨a.block, a.off + i, none⟩ := by
  obtain ⟨b, o, s⟩ := a
  simp only at h
  subst h
  exact Addr.add_lit b o i
theorem wSpot {W : World} {a : Addr} {v : Value} (h : W.cell? (a.add 0) = some v) : a.spot = none := by
  have := World.cell?_spot h
  simpa [Addr.add] using this
set_option maxRecDepth 100000 in
theorem intsW_of_trod {W : World} {fuel : Nat} {v : Value} {x : DataW H × List MemPlace} (h : DataW.trod enc Tryz.prog W 0 (fun _ => true) true fuel 22 [v] = some x) :
    ∃ p L c, v = .slice p L.length c ∧ Ints W p L ∧ KindW p L.length c := by
  rcases open_ints Tryz.underlying22 Tryz.underlying3 cellsI h with ⟨hcs, -⟩ | ⟨a, len, cap, zs, hcs, -, h1, h2, h3, -, hall, -⟩
  · simp at hcs
    subst hcs
    exact ⟨none, [], 0, rfl, ints_nil _ _, .inl ⟨rfl, rfl, rfl⟩⟩
  · simp at hcs
    subst hcs
    simp only [if_true] at h3
    have hl : (zs.take len).length = len := by simp; omega
    refine ⟨some a, zs.take len, cap, by rw [hl], fun i hi => ?_, .inr ⟨a, rfl⟩⟩
    have hi' : i < len := by rw [hl] at hi; exact hi
    have hc := hall i (by omega)
    have hsp : a.spot = none := wSpot (hall 0 (by omega))
    obtain ⟨b, o, spot⟩ := a
    simp only at hsp
    subst hsp
    refine ⟨b, o, rfl, ?_⟩
    rw [Addr.add_lit] at hc
    rw [hc]
    simp [List.getD, show i < zs.length by omega]
set_option maxRecDepth 100000 in
theorem pairsW_of_trod {W : World} {fuel : Nat} {v : Value} {x : DataW H × List MemPlace} (h : DataW.trod enc Tryz.prog W 0 (fun _ => true) true fuel 52 [v] = some x) :
    ∃ p L c, v = .slice p L.length c ∧ Pairs W p L ∧ Kind (.slice p L.length c) L.length := by
  rcases open_slice Tryz.underlying52 h with ⟨hcs, -⟩ | ⟨a, len', cap', m, n, D, Pl, hcs, -, hl, hm, hmeq, -, hall⟩
  · simp at hcs
    subst hcs
    exact ⟨none, [], 0, rfl, pairs_nil _ _, .inl ⟨rfl, rfl⟩⟩
  · simp at hcs
    subst hcs
    simp only [if_true] at hmeq
    subst hmeq
    have each : ∀ i, i < len' → ∃ e : Int × Int, W.cell? (a.add (i * 2)) = some (.int .i64 e.1) ∧ W.cell? (a.add (i * 2 + 1)) = some (.int .i64 e.2) := by
      intro i hi
      obtain ⟨cs', h1, h2⟩ := hall i (by omega)
      rw [cellsPr] at h1
      obtain ⟨-, hlen, hcell⟩ := World.cells?_some h1
      obtain ⟨y0, y1, k, g0, g1⟩ := wTrod2 Tryz.underlying65 h2
      match cs', hlen with
      | [v0, v1], _ =>
        have e0 := hcell 0 (by omega)
        have e1 := hcell 1 (by omega)
        rw [wAdd_add] at e0 e1
        simp only [cellsI, List.drop_zero, List.take_succ_cons, List.take_zero, List.drop_succ_cons, Nat.add_zero] at g0 g1 e0 e1
        obtain ⟨x0, q0, -, -⟩ := DataW.trod_int Tryz.underlying3 g0
        obtain ⟨x1, q1, -, -⟩ := DataW.trod_int Tryz.underlying3 g1
        simp only [List.cons.injEq, and_true] at q0 q1
        subst q0 q1
        exact ⟨(x0, x1), by simpa using e0, by simpa using e1⟩
    obtain ⟨f, hf⟩ : ∃ f : Nat → Int × Int, ∀ i, i < len' → W.cell? (a.add (i * 2)) = some (.int .i64 (f i).1) ∧ W.cell? (a.add (i * 2 + 1)) = some (.int .i64 (f i).2) := by
      refine ⟨fun i => if h : i < len' then Classical.choose (each i h) else (0, 0), fun i hi => ?_⟩
      simp only [dif_pos hi]
      exact Classical.choose_spec (each i hi)
    refine ⟨some a, (List.range len').map f, m, by simp, fun i hi => ?_, .inr ⟨a, m, by simp⟩⟩
    have hi' : i < len' := by simpa using hi
    have hspot : a.spot = none := wSpot (by simpa using (hf 0 (by omega)).1)
    obtain ⟨c0, c1⟩ := hf i hi'
    obtain ⟨b, o, spot⟩ := a
    rw [wRow_plain _ hspot] at c0 c1
    simp only at hspot
    refine ⟨b, o, by rw [hspot], ?_⟩
    simp only [List.getElem_map, List.getElem_range]
    exact ⟨c0, by simpa [Nat.add_assoc] using c1⟩
set_option maxRecDepth 100000 in
theorem routesW_of_trod {W : World} {fuel : Nat} {v : Value} {x : DataW H × List MemPlace} (h : DataW.trod enc Tryz.prog W 0 (fun _ => true) true fuel 53 [v] = some x) :
    ∃ p L c, v = .slice p L.length c ∧ RoutesArg W p L := by
  rcases open_slice Tryz.underlying53 h with ⟨hcs, -⟩ | ⟨a, len', cap', m, n, D, Pl, hcs, -, hl, hm, hmeq, -, hall⟩
  · simp at hcs
    subst hcs
    exact ⟨none, [], 0, rfl, fun i hi => by simp at hi⟩
  · simp at hcs
    subst hcs
    simp only [if_true] at hmeq
    subst hmeq
    have each : ∀ i, i < len' → ∃ r : Ro, a.spot = none ∧ RouteArg W a.block (a.off + i * 8) r := by
      intro i hi
      obtain ⟨cs', h1, h2⟩ := hall i (by omega)
      rw [cellsRo] at h1
      obtain ⟨-, hlen, hcell⟩ := World.cells?_some h1
      obtain ⟨y0, y1, y2, k, g0, g1, g2⟩ := wTrod3 Tryz.underlying67 h2
      match cs', hlen with
      | [v0, v1, v2, v3, v4, v5, v6, v7], _ =>
        have e0 := hcell 0 (by omega)
        have e1 := hcell 1 (by omega)
        have e2 := hcell 2 (by omega)
        have e3 := hcell 3 (by omega)
        have e4 := hcell 4 (by omega)
        have e5 := hcell 5 (by omega)
        have e6 := hcell 6 (by omega)
        have e7 := hcell 7 (by omega)
        rw [wAdd_add] at e0 e1 e2 e3 e4 e5 e6 e7
        simp only [cellsPr, cellsAt, cellsI, List.drop_zero, List.take_succ_cons, List.take_zero, List.drop_succ_cons, Nat.add_zero] at g0 g1 g2 e0
        obtain ⟨z0, z1, k0, f0, f1⟩ := wTrod2 Tryz.underlying65 g0
        obtain ⟨z2, z3, z4, z5, z6, k1, f2, f3, f4, f5, f6⟩ := trod_struct5 Tryz.underlying24 g1
        simp only [cellsI, cellsSI, List.drop_zero, List.take_succ_cons, List.take_zero, List.drop_succ_cons] at f0 f1 f2 f3 f4 f5 f6
        obtain ⟨x0, q0, -, -⟩ := DataW.trod_int Tryz.underlying3 f0
        obtain ⟨x1, q1, -, -⟩ := DataW.trod_int Tryz.underlying3 f1
        obtain ⟨p2, P2, c2, q2, i2, w2⟩ := intsW_of_trod f2
        obtain ⟨x3, q3, -, -⟩ := DataW.trod_int Tryz.underlying3 f3
        obtain ⟨x4, q4, -, -⟩ := DataW.trod_int Tryz.underlying3 f4
        obtain ⟨x5, q5, -, -⟩ := DataW.trod_int Tryz.underlying3 f5
        obtain ⟨p6, P6, c6, q6, i6, w6⟩ := intsW_of_trod f6
        obtain ⟨x7, q7, -, -⟩ := DataW.trod_int Tryz.underlying3 g2
        simp only [List.cons.injEq, and_true] at q0 q1 q3 q4 q5 q7
        subst q0 q1 q2 q3 q4 q5 q6 q7
        have hspot : a.spot = none := by
          obtain ⟨cs0, h10, -⟩ := hall 0 (by omega)
          rw [cellsRo] at h10
          obtain ⟨-, hlen0, hcell0⟩ := World.cells?_some h10
          have e := hcell0 0 (by omega)
          rw [wAdd_add] at e
          match cs0, hlen0 with
          | u :: _, _ => exact wSpot (by simpa using e)
        rw [wRow_plain _ hspot] at e0 e1 e2 e3 e4 e5 e6 e7
        exact ⟨⟨(x0, x1), ⟨P2, x3, x4, x5, P6⟩, x7⟩, hspot, p2, c2, p6, c6, by simpa using e0, by simpa [Nat.add_assoc] using e1, by simpa [Nat.add_assoc] using e2, by simpa [Nat.add_assoc] using e3, by simpa [Nat.add_assoc] using e4, by simpa [Nat.add_assoc] using e5, by simpa [Nat.add_assoc] using e6, by simpa [Nat.add_assoc] using e7, i2, i6, w2, w6⟩
    refine ⟨some a, (List.range len').map (fun i => if h : i < len' then Classical.choose (each i h) else ro0), m, by simp, fun i hi => ?_⟩
    have hi' : i < len' := by simpa using hi
    have hc := Classical.choose_spec (each i hi')
    obtain ⟨b, o, spot⟩ := a
    obtain ⟨hspot, hra⟩ := hc
    simp only at hspot
    refine ⟨b, o, by rw [hspot], ?_⟩
    simp only [List.getElem_map, List.getElem_range, dif_pos hi']
    exact hra
set_option maxRecDepth 100000 in
/-- A message that came in. -/
theorem open_msg {W : World} {b0 : Nat} {v : Value} {d : DataW H} {ps : List MemPlace} (hv : Value.okWide Tryz.prog W .any b0 55 v) (h : DataW.Trod enc Tryz.prog W 0 (fun _ => true) true 55 v d ps) :
    ∃ M, MsgArg W v M := by
  have hv' : ∃ cs, v = .agg cs ∧ cs.size = Tryz.prog.cellsOf 55 ∧ Row.okWide Tryz.prog W .any b0 55 cs := by
    simpa only [Value.okWide, Tryz.underlying55] using hv
  obtain ⟨cs, rfl, hsz, -⟩ := hv'
  rw [cellsMsg] at hsz
  obtain ⟨l⟩ := cs
  obtain ⟨fuel, hf⟩ := h
  obtain ⟨y0, y1, y2, y3, n, g0, g1, g2, g3⟩ := wTrod4 Tryz.underlying55 hf
  match l, hsz with
  | [c0, c1, c2, c3], _ =>
    simp only [Value.cells, cellsI, cellsStr9, cellsSP, cellsSR, List.drop_zero, List.take_succ_cons, List.take_zero, List.drop_succ_cons] at g0 g1 g2 g3
    obtain ⟨s, q0, -⟩ := DataW.trod_string Tryz.underlying9 g0
    obtain ⟨x1, q1, -, -⟩ := DataW.trod_int Tryz.underlying3 g1
    obtain ⟨p, D, cp, rfl, hP, hK⟩ := pairsW_of_trod g2
    obtain ⟨q, L, cq, rfl, hQ⟩ := routesW_of_trod g3
    simp only [List.cons.injEq, and_true] at q0 q1
    subst q0 q1
    exact ⟨⟨s.data.toList, x1, D, L⟩, p, cp, q, cq, by simp, hP, hK, hQ⟩
end
end Go.Proofs.YtbfdgflbflajdaaGreatDoor
