/-
  The document's SameMsg at two equal messages; the law's OwnMsg: what they return.
-/
import Derived.Test.YtbfdgflbflajdaaGreatDoorGJ
import Derived.Test.YtbfdgflbflajdaaGreatDoorGK
import Derived.Test.YtbfdgflbflajdaaGreatDoorWireRead0
import Derived.Test.YtbfdgflbflajdaaGreatDoorGO
namespace Go.Proofs.YtbfdgflbflajdaaGreatDoor
open Go.RowKit
open scoped Classical

set_option linter.unusedVariables false in
set_option linter.unusedSimpArgs false in
set_option maxRecDepth 100000 in
set_option maxHeartbeats 4000000 in
theorem sameMsg_same (v v' : Value) (M : Ms) (w : World) (h : IsMsg w v M) (h' : IsMsg w v' M) (h1 : M.drops.length ≤ 1000000) (h2 : M.adds.length ≤ 1000000) (hm : Mod M.adds) :
    Calls Tryz.prog 32 #[v, v'] w fun r w' => r = .returned (.bool true) ∧ Below w.heap.size w w' := by
  obtain ⟨p, c, q, d, rfl, i1, i2⟩ := h
  obtain ⟨p', c', q', d', rfl, j1, j2⟩ := h'
  obtain ⟨K, n, D, L⟩ := M
  simp only at *
  obtain ⟨HP⟩ : Nonempty (Hid (∀ w', Below w.heap.size w w' → Calls Tryz.prog 68 #[.slice p D.length c, .slice p' D.length c'] w' fun r w'' => r = .returned (.bool true) ∧ Below w'.heap.size w' w'')) := ⟨fun w' hb => by
    have := samePrefixes_any D D p p' c c' w' (i1.below hb) (j1.below hb) (by omega)
    rwa [decide_eq_true rfl] at this⟩
  obtain ⟨HR⟩ : Nonempty (Hid (∀ w', Below w.heap.size w w' → Calls Tryz.prog 69 #[.slice q L.length d, .slice q' L.length d'] w' fun r w'' => r = .returned (.bool true) ∧ Below w'.heap.size w' w'')) := ⟨fun w' hb => by
    have := sameRoutes_any L L q q' d d' w' (i2.below hb) (j2.below hb) h2 h2 hm hm
    rwa [decide_eq_true rfl] at this⟩
  obtain ⟨W, hW⟩ : ∃ W, Hid ((w.alloc (.cells #[.string ⟨K.toArray⟩, .int .i64 n, .slice p D.length c, .slice q L.length d] 55)).alloc (.cells #[.string ⟨K.toArray⟩, .int .i64 n, .slice p' D.length c', .slice q' L.length d'] 55) = W) := ⟨_, show _ = _ from rfl⟩
  obtain ⟨N, hN⟩ : ∃ N, Hid (w.heap.size = N) := ⟨_, show _ = _ from rfl⟩
  obtain ⟨HB⟩ : Nonempty (Hid (Below w.heap.size w W ∧ W.heap[N]? = some (.cells #[.string ⟨K.toArray⟩, .int .i64 n, .slice p D.length c, .slice q L.length d] 55 (0, 0)) ∧ W.heap[N + 1]? = some (.cells #[.string ⟨K.toArray⟩, .int .i64 n, .slice p' D.length c', .slice q' L.length d'] 55 (0, 0)))) := ⟨by
    rw [← hW.out, ← hN.out]
    refine ⟨(below_alloc _ _).trans ((below_alloc _ _).mono (by simp)), ?_, ?_⟩
    · rw [Below.heap_alloc _ _ _ (by simp)]; exact Go.heap_alloc_new w _
    · have := Go.heap_alloc_new (w.alloc (.cells #[.string ⟨K.toArray⟩, .int .i64 n, .slice p D.length c, .slice q L.length d] 55)) (.cells #[.string ⟨K.toArray⟩, .int .i64 n, .slice p' D.length c', .slice q' L.length d'] 55)
      simpa using this⟩
  obtain ⟨x0, x1, x2, x3⟩ := heap_cells4 HB.out.2.1
  obtain ⟨y0, y1, y2, y3⟩ := heap_cells4 HB.out.2.2
  obtain ⟨HX⟩ : Nonempty (Hid (∀ w', Below W.heap.size W w' → w'.cell? ⟨N, 3, none⟩ = some (.slice q L.length d) ∧ w'.cell? ⟨N + 1, 3, none⟩ = some (.slice q' L.length d'))) := ⟨fun w' hb => ⟨cell_kept hb x3, cell_kept hb y3⟩⟩
  clear i1 i2 j1 j2 hm
  go_enter Tryz.func32, Tryz.ntmps32
  go_upto_region 1 with fail
  rw [show (w.alloc (.cells #[.string ⟨K.toArray⟩, .int .i64 n, .slice p D.length c, .slice q L.length d] 55)).alloc (.cells #[.string ⟨K.toArray⟩, .int .i64 n, .slice p' D.length c', .slice q' L.length d'] 55) = W from hW.out, show w.heap.size = N from hN.out]
  go_wp2_with fail
  refine (HP.out _ HB.out.1).mono ?_
  rintro e w1 ⟨rfl, hb1⟩
  obtain ⟨HB1⟩ : Nonempty (Hid (Below W.heap.size W w1)) := ⟨hb1⟩
  obtain ⟨z3, z3'⟩ := HX.out _ HB1.out
  obtain ⟨HB2⟩ : Nonempty (Hid (Below w.heap.size w w1)) := ⟨HB.out.1.trans (hb1.mono HB.out.1.size)⟩
  clear hb1
  go_wp2_with fail
  refine (HR.out _ HB2.out).mono ?_
  rintro e w2 ⟨rfl, hb2⟩
  obtain ⟨HB3⟩ : Nonempty (Hid (Below w.heap.size w w2)) := ⟨HB2.out.trans (hb2.mono HB2.out.size)⟩
  clear hb2
  go_wp2_with fail
  go_ret
  exact ⟨rfl, HB3.out⟩

/-- a route of an argument: its lists' values are read as they came. -/
def RouteArg (w : World) (b o : Nat) (r : Ro) : Prop :=
  ∃ p cp q cq, w.cell? ⟨b, o, none⟩ = some (.int .i64 r.dst.1) ∧ w.cell? ⟨b, o + 1, none⟩ = some (.int .i64 r.dst.2)
    ∧ w.cell? ⟨b, o + 2, none⟩ = some (.slice p r.att.path.length cp) ∧ w.cell? ⟨b, o + 3, none⟩ = some (.int .i64 r.att.pref) ∧ w.cell? ⟨b, o + 4, none⟩ = some (.int .i64 r.att.med) ∧ w.cell? ⟨b, o + 5, none⟩ = some (.int .i64 r.att.org) ∧ w.cell? ⟨b, o + 6, none⟩ = some (.slice q r.att.tags.length cq)
    ∧ w.cell? ⟨b, o + 7, none⟩ = some (.int .i64 r.frm) ∧ Ints w p r.att.path ∧ Ints w q r.att.tags ∧ KindW p r.att.path.length cp ∧ KindW q r.att.tags.length cq
def RoutesArg (w : World) (p : Option Addr) (L : List Ro) : Prop := ∀ i (h : i < L.length), ∃ b o, p = some ⟨b, o, none⟩ ∧ RouteArg w b (o + i * 8) L[i]
theorem RoutesArg.routes {w : World} {p : Option Addr} {L : List Ro} (h : RoutesArg w p L) : Routes w p L := fun i hi => by
  obtain ⟨b, o, e, p1, c1, q1, d1, a0, a1, a2, a3, a4, a5, a6, a7, i1, i2, -⟩ := h i hi
  exact ⟨b, o, e, p1, c1, q1, d1, a0, a1, a2, a3, a4, a5, a6, a7, i1, i2⟩
theorem RoutesArg.below {w w' : World} {p : Option Addr} {L : List Ro} (h : RoutesArg w p L) (hb : Below w.heap.size w w') : RoutesArg w' p L := fun i hi => by
  obtain ⟨b, o, e, p1, c1, q1, d1, a0, a1, a2, a3, a4, a5, a6, a7, i1, i2, k1, k2⟩ := h i hi
  exact ⟨b, o, e, p1, c1, q1, d1, cell_kept hb a0, cell_kept hb a1, cell_kept hb a2, cell_kept hb a3, cell_kept hb a4, cell_kept hb a5, cell_kept hb a6, cell_kept hb a7, i1.below hb, i2.below hb, k1, k2⟩
/-- a message that came in. -/
def MsgArg (w : World) (v : Value) (M : Ms) : Prop :=
  ∃ p c q d, v = .agg #[.string ⟨M.kind.toArray⟩, .int .i64 M.n, .slice p M.drops.length c, .slice q M.adds.length d] ∧ Pairs w p M.drops ∧ Kind (.slice p M.drops.length c) M.drops.length ∧ RoutesArg w q M.adds
theorem MsgArg.msg {w : World} {v : Value} {M : Ms} (h : MsgArg w v M) : IsMsg w v M := by
  obtain ⟨p, c, q, d, e, h1, -, h2⟩ := h
  exact ⟨p, c, q, d, e, h1, h2.routes⟩
theorem MsgArg.below {w w' : World} {v : Value} {M : Ms} (h : MsgArg w v M) (hb : Below w.heap.size w w') : MsgArg w' v M := by
  obtain ⟨p, c, q, d, e, h1, hk, h2⟩ := h
  exact ⟨p, c, q, d, e, h1.below hb, hk, h2.below hb⟩
/-- five cells of a block of eight, stored. -/
theorem set5of8 {W : World} {N : Nat} {x0 x1 x2 x3 x4 x5 x6 x7 : Value} {t : TypeId} (h : W.heap[N]? = some (.cells #[x0, x1, x2, x3, x4, x5, x6, x7] t (0, 0))) (y2 y3 y4 y5 y6 : Value) :
    (((((W.setCell ⟨N, 2, none⟩ y2).setCell ⟨N, 3, none⟩ y3).setCell ⟨N, 4, none⟩ y4).setCell ⟨N, 5, none⟩ y5).setCell ⟨N, 6, none⟩ y6).heap[N]? = some (.cells #[x0, x1, y2, y3, y4, y5, y6, x7] t (0, 0)) := by
  have h2 := heap_setCell_same W N 2 _ _ y2 h
  have h3 := heap_setCell_same _ N 3 _ _ y3 h2
  have h4 := heap_setCell_same _ N 4 _ _ y4 h3
  have h5 := heap_setCell_same _ N 5 _ _ y5 h4
  have h6 := heap_setCell_same _ N 6 _ _ y6 h5
  simpa using h6
theorem heap_cells8 {w : World} {R : Nat} {x0 x1 x2 x3 x4 x5 x6 x7 : Value} {t : TypeId} (h : w.heap[R]? = some (.cells #[x0, x1, x2, x3, x4, x5, x6, x7] t (0, 0))) :
    w.cell? ⟨R, 0, none⟩ = some x0 ∧ w.cell? ⟨R, 1, none⟩ = some x1 ∧ w.cell? ⟨R, 2, none⟩ = some x2 ∧ w.cell? ⟨R, 3, none⟩ = some x3 ∧ w.cell? ⟨R, 4, none⟩ = some x4 ∧ w.cell? ⟨R, 5, none⟩ = some x5 ∧ w.cell? ⟨R, 6, none⟩ = some x6 ∧ w.cell? ⟨R, 7, none⟩ = some x7 ∧ (∀ o, w.frozen? ⟨R, o, none⟩ = false) := by
  refine ⟨?_, ?_, ?_, ?_, ?_, ?_, ?_, ?_, fun o => ?_⟩ <;> simp [World.cell?, World.frozen?, h]
theorem ownRo_set8 {W : World} {S : Nat} {v : Value} {L : List Ro} {N : Nat} (h : OwnRo W S v L (fun b => b < S ∨ b = N)) (hv : v.ownBlock ≠ some N) (hS : ∀ b, v.ownBlock = some b → S ≤ b) (k : Nat) (u : Value) : OwnRo (W.setCell ⟨N, k, none⟩ u) S v L (fun b => b < S ∨ b = N) :=
  h.kept (fun i _ hn => Below.heap_setCell _ _ _ _ (by simp only; intro e; exact hn (.inr e))) (fun b hb hf => by
    rcases hf with hf | hf
    · have := hS b hb; omega
    · exact hv (hf ▸ hb))

set_option linter.unusedVariables false in
set_option linter.unusedSimpArgs false in
set_option maxRecDepth 100000 in
set_option maxHeartbeats 8000000 in
theorem ownMsg_any (v : Value) (M : Ms) (w : World) (h : MsgArg w v M) (h1 : M.drops.length ≤ 1000000) (h2 : M.adds.length ≤ 1000000) (hm : Mod M.adds) :
    Calls Tryz.prog 30 #[v] w fun r w' => (∃ v', r = .returned v' ∧ IsMsg w' v' M) ∧ Below w.heap.size w w' := by
  obtain ⟨p, c, q, d, rfl, i1, hk1, i2⟩ := h
  obtain ⟨K, n, D, L⟩ := M
  simp only at *
  obtain ⟨i8, hi8, hy0, hy1, hy2⟩ := pInfo_parts infoRoute
  obtain ⟨W, hW⟩ : ∃ W, Hid ((w.alloc (.cells #[.string ⟨K.toArray⟩, .int .i64 n, .slice p D.length c, .slice q L.length d] 55)).alloc (.cells #[.string ⟨#[]⟩, .int .i64 0, .slice none 0 0, .slice none 0 0] 55) = W) := ⟨_, show _ = _ from rfl⟩
  obtain ⟨N, hN⟩ : ∃ N, Hid (w.heap.size = N) := ⟨_, show _ = _ from rfl⟩
  obtain ⟨HB⟩ : Nonempty (Hid (Below N w W ∧ W.heap[N]? = some (.cells #[.string ⟨K.toArray⟩, .int .i64 n, .slice p D.length c, .slice q L.length d] 55 (0, 0)) ∧ W.heap[N + 1]? = some (.cells #[.string ⟨#[]⟩, .int .i64 0, .slice none 0 0, .slice none 0 0] 55 (0, 0)) ∧ W.heap.size = N + 2)) := ⟨by
    rw [← hW.out, ← hN.out]
    refine ⟨(below_alloc _ _).trans ((below_alloc _ _).mono (by simp)), ?_, ?_, by simp⟩
    · rw [Below.heap_alloc _ _ _ (by simp)]; exact Go.heap_alloc_new w _
    · have := Go.heap_alloc_new (w.alloc (.cells #[.string ⟨K.toArray⟩, .int .i64 n, .slice p D.length c, .slice q L.length d] 55)) (.cells #[.string ⟨#[]⟩, .int .i64 0, .slice none 0 0, .slice none 0 0] 55)
      simpa using this⟩
  obtain ⟨x0, x1, x2, x3⟩ := heap_cells4 HB.out.2.1
  obtain ⟨HX⟩ : Nonempty (Hid (∀ w', Below (N + 2) W w' → w'.cell? ⟨N, 3, none⟩ = some (.slice q L.length d))) := ⟨fun w' hb => by rw [← HB.out.2.2.2] at hb; exact cell_kept hb x3⟩
  obtain ⟨HR⟩ : Nonempty (Hid (∀ w', Below (N + 2) W w' → RoutesArg w' q L)) := ⟨fun w' hb => i2.below (by rw [show w.heap.size = N from hN.out]; exact HB.out.1.trans (hb.mono (by omega)))⟩
  obtain ⟨HP⟩ : Nonempty (Hid (∀ w', Below (N + 2) W w' → Calls Tryz.prog 63 #[.slice p D.length c] w' fun e w'' => (∃ v, e = .returned v ∧ w''.ownsRow w'.heap.size 65 2 v D.length (flat2 D)) ∧ Below w'.heap.size w' w'')) := ⟨fun w' hb => ownPrefixes_any D p c w' (i1.below (by rw [show w.heap.size = N from hN.out]; exact HB.out.1.trans (hb.mono (by omega)))) hk1 (by omega)⟩
  obtain ⟨HM⟩ : Nonempty (Hid (Mod L)) := ⟨hm⟩
  obtain ⟨HS⟩ : Nonempty (Hid (Below (N + 2) W W ∧ OwnRo W (N + 2) (.slice none 0 0) [] (fun b => b < N + 2))) := ⟨⟨Below.refl _ _, ownRo_nil _ _ _⟩⟩
  clear i1 i2 hk1 hm
  go_enter Tryz.func30, Tryz.ntmps30
  go_upto_region 3 with fail
  rw [show (w.alloc (.cells #[.string ⟨K.toArray⟩, .int .i64 n, .slice p D.length c, .slice q L.length d] 55)).alloc (.cells #[.string ⟨#[]⟩, .int .i64 0, .slice none 0 0, .slice none 0 0] 55) = W from hW.out, show w.heap.size = N from hN.out]
  go_loopw [3, 4] (fun u i wr => ∃ k : Nat, i = .int .i64 k ∧ k ≤ L.length ∧ Hid (OwnRo wr (N + 2) u (L.take k) (fun b => b < N + 2)) ∧ Hid (Below (N + 2) W wr)) (fun _ i _ => L.length - (intOf i).toNat)
  case atStart => exact ⟨0, rfl, Nat.zero_le _, HS.out.2, HS.out.1⟩
  case round =>
    obtain ⟨k, rfl, hk, HO, HW⟩ := hrel
    have x3' := HX.out _ HW.out
    by_cases hlt : k < L.length
    · obtain ⟨b, o, rfl, p1, c1, p2, c2, a0, a1, a2, a3, a4, a5, a6, a7, j1, j2, k1, k2⟩ := HR.out wr HW.out k hlt
      have m1 := HM.out L[k] (List.getElem_mem hlt)
      have q3 : (k : Int) < L.length := by omega
      obtain ⟨r, hr⟩ : ∃ r, Hid (L[k] = r) := ⟨_, show _ = _ from rfl⟩
      rw [show L[k] = r from hr.out] at a0 a1 a2 a3 a4 a5 a6 a7 j1 j2 k1 k2 m1
      obtain ⟨O', HO'⟩ : ∃ O', Hid (L.take k ++ [r] = O') := ⟨_, show _ = _ from rfl⟩
      have HOX : Hid (L.take (k + 1) = O') := by
        show _ = _
        rw [← HO'.out, ← hr.out, List.take_succ_eq_append_getElem hlt]
      have hkl : (L.take k).length ≤ 1000000 := by rw [List.length_take]; omega
      obtain ⟨b9, hb9⟩ : ∃ b, Hid (wr.heap.size = b) := ⟨_, show _ = _ from rfl⟩
      obtain ⟨W9, hW9⟩ : ∃ b, Hid (wr.alloc (.cells #[.int .i64 r.dst.1, .int .i64 r.dst.2, .slice p1 r.att.path.length c1, .int .i64 r.att.pref, .int .i64 r.att.med, .int .i64 r.att.org, .slice p2 r.att.tags.length c2, .int .i64 r.frm] 67) = b) := ⟨_, show _ = _ from rfl⟩
      obtain ⟨HB9⟩ : Nonempty (Hid (Below wr.heap.size wr W9 ∧ W9.heap[b9]? = some (.cells #[.int .i64 r.dst.1, .int .i64 r.dst.2, .slice p1 r.att.path.length c1, .int .i64 r.att.pref, .int .i64 r.att.med, .int .i64 r.att.org, .slice p2 r.att.tags.length c2, .int .i64 r.frm] 67 (0, 0)) ∧ N + 2 ≤ b9 ∧ W9.heap.size = b9 + 1)) := ⟨by
        rw [← hW9.out, ← hb9.out]
        refine ⟨below_alloc _ _, Go.heap_alloc_new wr _, ?_, by simp⟩
        have := HW.out.size
        have := HB.out.2.2.2
        omega⟩
      obtain ⟨HC⟩ : Nonempty (Hid (Calls Tryz.prog 17 #[.agg #[.slice p1 r.att.path.length c1, .int .i64 r.att.pref, .int .i64 r.att.med, .int .i64 r.att.org, .slice p2 r.att.tags.length c2]] W9 fun e w'' => (∃ v', e = .returned v' ∧ AttrF w'' v' r.att W9.heap.size) ∧ Below W9.heap.size W9 w'')) := ⟨ownAttr_w _ r.att W9 ⟨p1, c1, p2, c2, rfl, j1.below HB9.out.1, j2.below HB9.out.1, k1, k2⟩ m1.1 m1.2⟩
      have z := heap_cells8 HB9.out.2.1
      obtain ⟨z0, z1, z2, z3, z4, z5, z6, z7, -⟩ := z
      clear j1 j2 k1 k2 m1
      go_upto_region 6 with fail
      rw [show wr.alloc (.cells #[.int .i64 r.dst.1, .int .i64 r.dst.2, .slice p1 r.att.path.length c1, .int .i64 r.att.pref, .int .i64 r.att.med, .int .i64 r.att.org, .slice p2 r.att.tags.length c2, .int .i64 r.frm] 67) = W9 from hW9.out, show wr.heap.size = b9 from hb9.out]
      clear a0 a1 a2 a3 a4 a5 a6 a7
      go_wp2_with fail
      refine HC.out.mono ?_
      rintro e w2 ⟨⟨v2, rfl, hv2⟩, hb2⟩
      obtain ⟨q1, d1, q2, d2, rfl, j1, j2, -, -, l1, l2⟩ := hv2
      obtain ⟨HB2⟩ : Nonempty (Hid (Below W9.heap.size W9 w2)) := ⟨hb2⟩
      have hh2 : w2.heap[b9]? = some (.cells #[.int .i64 r.dst.1, .int .i64 r.dst.2, .slice p1 r.att.path.length c1, .int .i64 r.att.pref, .int .i64 r.att.med, .int .i64 r.att.org, .slice p2 r.att.tags.length c2, .int .i64 r.frm] 67 (0, 0)) := by rw [hb2.block b9 (by have := HB9.out.2.2.2; omega)]; exact HB9.out.2.1
      obtain ⟨y0, y1, y2, y3, y4, y5, y6, y7, yf⟩ := heap_cells8 hh2
      have yf2 := yf 2
      have yf3 := yf 3
      have yf4 := yf 4
      have yf5 := yf 5
      have yf6 := yf 6
      obtain ⟨W3, hW3⟩ : ∃ b, Hid (((((w2.setCell ⟨b9, 2, none⟩ (.slice q1 r.att.path.length d1)).setCell ⟨b9, 3, none⟩ (.int .i64 r.att.pref)).setCell ⟨b9, 4, none⟩ (.int .i64 r.att.med)).setCell ⟨b9, 5, none⟩ (.int .i64 r.att.org)).setCell ⟨b9, 6, none⟩ (.slice q2 r.att.tags.length d2) = b) := ⟨_, show _ = _ from rfl⟩
      have hh3 := set5of8 hh2 (.slice q1 r.att.path.length d1) (.int .i64 r.att.pref) (.int .i64 r.att.med) (.int .i64 r.att.org) (.slice q2 r.att.tags.length d2)
      rw [show ((((w2.setCell ⟨b9, 2, none⟩ (.slice q1 r.att.path.length d1)).setCell ⟨b9, 3, none⟩ (.int .i64 r.att.pref)).setCell ⟨b9, 4, none⟩ (.int .i64 r.att.med)).setCell ⟨b9, 5, none⟩ (.int .i64 r.att.org)).setCell ⟨b9, 6, none⟩ (.slice q2 r.att.tags.length d2) = W3 from hW3.out] at hh3
      obtain ⟨t0, t1, t2, t3, t4, t5, t6, t7, -⟩ := heap_cells8 hh3
      obtain ⟨nu, xu, huo⟩ := HO.out.own
      have hub : ∀ b, u3.ownBlock = some b → N + 2 ≤ b ∧ b < b9 := fun b hb => by have := huo.lt b hb; rw [show wr.heap.size = b9 from hb9.out] at this; exact this
      obtain ⟨HO3⟩ : Nonempty (Hid (OwnRo W3 (N + 2) u3 (L.take k) (fun b => b < N + 2) ∧ Below (N + 2) W W3 ∧ N + 2 ≤ W3.heap.size)) := ⟨by
        have g1 : OwnRo wr (N + 2) u3 (L.take k) (fun b => b < N + 2 ∨ b = b9) := HO.out.mono fun b hb hf => by
          rcases hf with h | h
          · exact h
          · rw [show wr.heap.size = b9 from hb9.out] at hb; omega
        have g2 := (g1.below HB9.out.1).below HB2.out
        have hn : u3.ownBlock ≠ some b9 := fun e => by have := hub b9 e; omega
        have g3 := ownRo_set8 (ownRo_set8 (ownRo_set8 (ownRo_set8 (ownRo_set8 g2 hn (fun b hb => (hub b hb).1) 2 (.slice q1 r.att.path.length d1)) hn (fun b hb => (hub b hb).1) 3 (.int .i64 r.att.pref)) hn (fun b hb => (hub b hb).1) 4 (.int .i64 r.att.med)) hn (fun b hb => (hub b hb).1) 5 (.int .i64 r.att.org)) hn (fun b hb => (hub b hb).1) 6 (.slice q2 r.att.tags.length d2)
        rw [show ((((w2.setCell ⟨b9, 2, none⟩ (.slice q1 r.att.path.length d1)).setCell ⟨b9, 3, none⟩ (.int .i64 r.att.pref)).setCell ⟨b9, 4, none⟩ (.int .i64 r.att.med)).setCell ⟨b9, 5, none⟩ (.int .i64 r.att.org)).setCell ⟨b9, 6, none⟩ (.slice q2 r.att.tags.length d2) = W3 from hW3.out] at g3
        have hB9 := HB9.out.2.2.1
        have hbw : Below (N + 2) W w2 := (HW.out.trans (HB9.out.1.mono (by rw [show wr.heap.size = b9 from hb9.out]; omega))).trans (HB2.out.mono (by have := HB9.out.2.2.2; omega))
        have hbw3 := ((((hbw.setCell (p := ⟨b9, 2, none⟩) hB9 (.slice q1 r.att.path.length d1)).setCell (p := ⟨b9, 3, none⟩) hB9 (.int .i64 r.att.pref)).setCell (p := ⟨b9, 4, none⟩) hB9 (.int .i64 r.att.med)).setCell (p := ⟨b9, 5, none⟩) hB9 (.int .i64 r.att.org)).setCell (p := ⟨b9, 6, none⟩) hB9 (.slice q2 r.att.tags.length d2)
        rw [show ((((w2.setCell ⟨b9, 2, none⟩ (.slice q1 r.att.path.length d1)).setCell ⟨b9, 3, none⟩ (.int .i64 r.att.pref)).setCell ⟨b9, 4, none⟩ (.int .i64 r.att.med)).setCell ⟨b9, 5, none⟩ (.int .i64 r.att.org)).setCell ⟨b9, 6, none⟩ (.slice q2 r.att.tags.length d2) = W3 from hW3.out] at hbw3
        exact ⟨g3.mono fun b _ h => .inl h, hbw3, by have := hbw3.size; have := HB.out.2.2.2; omega⟩⟩
      obtain ⟨HI3⟩ : Nonempty (Hid (IntsOff W3 q1 r.att.path (fun b => b < N + 2 ∨ u3.ownBlock = some b) ∧ IntsOff W3 q2 r.att.tags (fun b => b < N + 2 ∨ u3.ownBlock = some b))) := ⟨by
        have hno : ∀ b, W9.heap.size ≤ b → ¬ (b < N + 2 ∨ u3.ownBlock = some b) := fun b hb hf => by
          have := HB9.out.2.2
          rcases hf with h | h
          · omega
          · have := hub b h; omega
        have hset : ∀ (q : Option Addr) (X : List Int), Ints w2 q X → (∀ b o, q = some ⟨b, o, none⟩ → W9.heap.size ≤ b) → Ints W3 q X := fun q X hq hl => by
          have hne : ∀ b o, q = some ⟨b, o, none⟩ → b9 < b := fun b o e => by have := hl b o e; have := HB9.out.2.2.2; omega
          rw [← hW3.out]
          exact ((((hq.set hne 2 _).set hne 3 _).set hne 4 _).set hne 5 _).set hne 6 _
        exact ⟨⟨hset q1 _ j1 l1, fun b o e _ => hno b (l1 b o e)⟩, ⟨hset q2 _ j2 l2, fun b o e _ => hno b (l2 b o e)⟩⟩⟩
      clear hb2 hh2 hh3 j1 j2 l1 l2 yf huo hub
      go_upto_region 7 with fail
      rw [show ((((w2.setCell ⟨b9, 2, none⟩ (.slice q1 r.att.path.length d1)).setCell ⟨b9, 3, none⟩ (.int .i64 r.att.pref)).setCell ⟨b9, 4, none⟩ (.int .i64 r.att.med)).setCell ⟨b9, 5, none⟩ (.int .i64 r.att.org)).setCell ⟨b9, 6, none⟩ (.slice q2 r.att.tags.length d2) = W3 from hW3.out]
      clear y0 y1 y2 y3 y4 y5 y6 y7 yf2 yf3 yf4 yf5 yf6 z0 z1 z2 z3 z4 z5 z6 z7
      go_wp2_with (at_builtin; refine wp_push8 rfl _ _ 53 rfl (N + 2) i8 Tryz.underlying53 hi8 hy0 hy1 hy2 (fun b => b < N + 2) u3 (L.take k) rfl HO3.out.1 ⟨r, q1, d1, q2, d2⟩ HI3.out #[.int .i64 r.dst.1, .int .i64 r.dst.2, .slice q1 r.att.path.length d1, .int .i64 r.att.pref, .int .i64 r.att.med, .int .i64 r.att.org, .slice q2 r.att.tags.length d2, .int .i64 r.frm] rfl _ rfl rfl O' HO' hkl HO3.out.2.2 ?_)
      intro v' w6 hown6 hb6 _ _ _
      obtain ⟨HB6⟩ : Nonempty (Hid (Below (N + 2) W w6)) := ⟨HO3.out.2.1.trans hb6⟩
      obtain ⟨HO6⟩ : Nonempty (Hid (OwnRo w6 (N + 2) v' (L.take (k + 1)) (fun b => b < N + 2))) := ⟨by rw [HOX.out]; exact hown6⟩
      clear hown6 hb6
      go_wp2_with fail
      go_roundw
      case rel => first | exact ⟨k + 1, by go_num, by omega, HO6, HB6⟩ | ((repeat apply Exists.intro); exact ⟨⟨k + 1, by go_num, by omega, HO6, HB6⟩, rfl⟩)
      case measure => simp [intOf]; omega
    · obtain rfl : k = L.length := by omega
      obtain ⟨HO2⟩ : Nonempty (Hid (OwnRo wr (N + 2) u3 L (fun b => b < N + 2))) := ⟨by have := HO.out; rwa [List.take_length] at this⟩
      obtain ⟨HN0⟩ : Nonempty (Hid (wr.heap[N]? = some (.cells #[.string ⟨K.toArray⟩, .int .i64 n, .slice p D.length c, .slice q L.length d] 55 (0, 0)) ∧ wr.heap[N + 1]? = some (.cells #[.string ⟨#[]⟩, .int .i64 0, .slice none 0 0, .slice none 0 0] 55 (0, 0)) ∧ N + 2 ≤ wr.heap.size)) := ⟨⟨by rw [HW.out.block N (by omega)]; exact HB.out.2.1, by rw [HW.out.block (N + 1) (by omega)]; exact HB.out.2.2.1, by have := HW.out.size; have := HB.out.2.2.2; omega⟩⟩
      obtain ⟨y0, y1, y2, y3⟩ := heap_cells4 HN0.out.1
      obtain ⟨HPC⟩ : Nonempty (Hid (Calls Tryz.prog 63 #[.slice p D.length c] wr fun e w'' => (∃ v, e = .returned v ∧ w''.ownsRow wr.heap.size 65 2 v D.length (flat2 D)) ∧ Below wr.heap.size wr w'')) := ⟨HP.out wr HW.out⟩
      obtain ⟨qa, ca, hu3, -, -, -⟩ := HO2.out.routes
      subst hu3
      clear HO
      go_wp2_with fail
      refine HPC.out.mono ?_
      rintro e w2 ⟨⟨v2, rfl, hv2⟩, hb2⟩
      obtain ⟨pd, cd, rfl, -, -, -⟩ := own_pairs hv2
      obtain ⟨HB2⟩ : Nonempty (Hid (Below wr.heap.size wr w2 ∧ w2.ownsRow wr.heap.size 65 2 (.slice pd D.length cd) D.length (flat2 D))) := ⟨⟨hb2, hv2⟩⟩
      have g0 : w2.heap[N]? = some (.cells #[.string ⟨K.toArray⟩, .int .i64 n, .slice p D.length c, .slice q L.length d] 55 (0, 0)) := by rw [hb2.block N (by have := HN0.out.2.2; omega)]; exact HN0.out.1
      have g1 : w2.heap[N + 1]? = some (.cells #[.string ⟨#[]⟩, .int .i64 0, .slice none 0 0, .slice none 0 0] 55 (0, 0)) := by rw [hb2.block (N + 1) (by have := HN0.out.2.2; omega)]; exact HN0.out.2.1
      have g2 := heap_setCell_same w2 N 2 _ _ (.slice pd D.length cd) g0
      have g3 := heap_setCell_same _ N 3 _ _ (.slice qa L.length ca) g2
      obtain ⟨W3, hW3⟩ : ∃ b, Hid ((w2.setCell ⟨N, 2, none⟩ (.slice pd D.length cd)).setCell ⟨N, 3, none⟩ (.slice qa L.length ca) = b) := ⟨_, show _ = _ from rfl⟩
      rw [show (w2.setCell ⟨N, 2, none⟩ (.slice pd D.length cd)).setCell ⟨N, 3, none⟩ (.slice qa L.length ca) = W3 from hW3.out] at g3
      have g4 : W3.heap[N]? = some (.cells #[.string ⟨K.toArray⟩, .int .i64 n, .slice pd D.length cd, .slice qa L.length ca] 55 (0, 0)) := by simpa using g3
      have g5 : W3.heap[N + 1]? = some (.cells #[.string ⟨#[]⟩, .int .i64 0, .slice none 0 0, .slice none 0 0] 55 (0, 0)) := by
        rw [← hW3.out, Below.heap_setCell _ _ _ _ (by simp), Below.heap_setCell _ _ _ _ (by simp)]
        exact g1
      obtain ⟨s0, s1, s2, s3⟩ := heap_cells4 g0
      have sf : ∀ o, w2.frozen? ⟨N, o, none⟩ = false := fun o => by simp [World.frozen?, g0]
      have sf2 := sf 2
      have sf3 := sf 3
      obtain ⟨f0, f1, f2, f3⟩ := heap_cells4 g4
      obtain ⟨e0, e1, e2, e3⟩ := heap_cells4 g5
      have ef : ∀ o, W3.frozen? ⟨N + 1, o, none⟩ = false := fun o => by simp [World.frozen?, g5]
      have ef0 := ef 0
      have ef1 := ef 1
      have ef2 := ef 2
      have ef3 := ef 3
      obtain ⟨r0, r1, r2, r3⟩ := heap_cells4 (set4 g5 (.string ⟨K.toArray⟩) (.int .i64 n) (.slice pd D.length cd) (.slice qa L.length ca))
      clear hb2 hv2 g0 g1 g2 g3 g4 g5 sf ef
      go_upto_region 10 with fail
      rw [show (w2.setCell ⟨N, 2, none⟩ (.slice pd D.length cd)).setCell ⟨N, 3, none⟩ (.slice qa L.length ca) = W3 from hW3.out]
      clear s0 s1 s2 s3 sf2 sf3
      go_wp2_with fail
      refine bodyPost_ret (v := .agg #[.string ⟨K.toArray⟩, .int .i64 n, .slice pd D.length cd, .slice qa L.length ca]) (by simp [results, Tryz.results30, go_sem, r0, r1, r2, r3]) rfl ⟨⟨_, rfl, ?_⟩, ?_⟩
      · have hX : ∀ k, k ≠ N → k ≠ N + 1 → ((((W3.setCell ⟨N + 1, 0, none⟩ (.string ⟨K.toArray⟩)).setCell ⟨N + 1, 1, none⟩ (.int .i64 n)).setCell ⟨N + 1, 2, none⟩ (.slice pd D.length cd)).setCell ⟨N + 1, 3, none⟩ (.slice qa L.length ca)).heap[k]? = w2.heap[k]? := fun k hk hk1 => by
          rw [Below.heap_setCell _ _ _ _ (by simpa using hk1), Below.heap_setCell _ _ _ _ (by simpa using hk1), Below.heap_setCell _ _ _ _ (by simpa using hk1), Below.heap_setCell _ _ _ _ (by simpa using hk1), ← hW3.out, Below.heap_setCell _ _ _ _ (by simpa using hk), Below.heap_setCell _ _ _ _ (by simpa using hk)]
        have hN0 := HN0.out.2.2
        have ha2 := HO2.out.below HB2.out.1
        obtain ⟨na, xa, hao⟩ := ha2.own
        have hdX := wOwn_kept HB2.out.2 (fun b hb => hX b (by have := (HB2.out.2.lt b hb).1; omega) (by have := (HB2.out.2.lt b hb).1; omega))
        have haX := ha2.kept (fun k _ hn => hX k (fun e => hn (by omega)) (fun e => hn (by omega))) (fun b hb hf => by have := (hao.lt b hb).1; omega)
        obtain ⟨p', cp', e1, -, -, hP⟩ := own_pairs hdX
        obtain ⟨q', cq', e2, -, -, hQ⟩ := haX.routes
        simp only [Value.slice.injEq, true_and] at e1 e2
        obtain ⟨rfl, rfl⟩ := e1
        obtain ⟨rfl, rfl⟩ := e2
        exact ⟨pd, cd, qa, ca, rfl, hP, hQ⟩
      · have h2 : Below N w w2 := (HB.out.1.trans (HW.out.mono (by omega))).trans (HB2.out.1.mono (by have := HN0.out.2.2; omega))
        have h3 : Below N w W3 := by rw [← hW3.out]; exact (h2.setCell (Nat.le_refl _) _).setCell (Nat.le_refl _) _
        rw [show w.heap.size = N from hN.out]
        exact (((h3.setCell (by simp) _).setCell (by simp) _).setCell (by simp) _).setCell (by simp) _
end Go.Proofs.YtbfdgflbflajdaaGreatDoor
