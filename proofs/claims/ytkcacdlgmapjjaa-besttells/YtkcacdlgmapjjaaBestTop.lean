/-
  Package best's Better and Best: what they return.
-/
import Derived.Test.YtkcacdlgmapjjaaBestCopied
import Derived.Test.YtkcacdlgmapjjaaRvRow
namespace Go.Proofs.Ytkcacdlgmapjjaa
open Go.RowKit

def rv0 : RV := ⟨ro0, none, 0, none, 0⟩
theorem rvAt_of {w : World} {b o : Nat} {X : List RV} (h : RvRow w (some ⟨b, o, none⟩) X) : RvAt w b o X := fun i hi j hj => by
  obtain ⟨b', o', e, c⟩ := h i hi
  simp only [Option.some.injEq, Addr.mk.injEq, and_true] at e
  obtain ⟨rfl, rfl⟩ := e
  have hj' : j < (enc8 X[i]).length := hj
  rw [List.getElem?_eq_getElem hj', c j _ (List.getElem?_eq_getElem hj')]

set_option linter.unusedVariables false in
set_option linter.unusedSimpArgs false in
set_option maxRecDepth 100000 in
set_option maxHeartbeats 8000000 in
theorem better_any (x y : RV) (w : World) (hx : RvOk w x) (hy : RvOk w y) :
    Calls Try.prog 10 #[roV x, roV y] w fun r w' => r = .returned (.bool (ltI (keyR x.r) (keyR y.r))) ∧ Below w.heap.size w w' := by
  obtain ⟨res, hres⟩ : ∃ z, ltI (keyR x.r) (keyR y.r) = z := ⟨_, rfl⟩
  obtain ⟨t, ht⟩ : ∃ t, ordR x.r y.r = t := ⟨_, rfl⟩
  have htl : decide (t < 0) = res := by rw [← ht, ← hres]; exact ordR_lt _ _
  obtain ⟨HC⟩ : Nonempty (Hid (∀ w', Below w.heap.size w w' → Calls Try.prog 17 #[roV x, roV y] w' fun r w'' => r = .returned (.int .i64 t) ∧ Below w'.heap.size w' w'')) := ⟨fun w' hb => (order_rv x y w' (hx.below hb) (hy.below hb)).mono fun e w'' ⟨h1, n, os, h2⟩ => ⟨by rw [h1, ht], by rw [h2]; exact below_grown _ _ _⟩⟩
  rw [hres]
  clear hres ht hx hy
  obtain ⟨⟨⟨ta, tn⟩, ⟨P, f, m, o, T⟩, u⟩, p, cp, q, cq⟩ := x
  obtain ⟨⟨⟨ta', tn'⟩, ⟨P', f', m', o', T'⟩, u'⟩, p', cp', q', cq'⟩ := y
  unfold roV enc8 at HC ⊢
  simp only at HC ⊢
  obtain ⟨N, hN⟩ : ∃ N, Hid (w.heap.size = N) := ⟨_, show _ = _ from rfl⟩
  obtain ⟨W, hW⟩ : ∃ W, Hid ((w.alloc (.cells #[.int .i64 ta, .int .i64 tn, .slice p P.length cp, .int .i64 f, .int .i64 m, .int .i64 o, .slice q T.length cq, .int .i64 u] 31)).alloc (.cells #[.int .i64 ta', .int .i64 tn', .slice p' P'.length cp', .int .i64 f', .int .i64 m', .int .i64 o', .slice q' T'.length cq', .int .i64 u'] 31) = W) := ⟨_, show _ = _ from rfl⟩
  obtain ⟨HW⟩ : Nonempty (Hid (Below w.heap.size w W ∧ W.heap[N]? = some (.cells #[.int .i64 ta, .int .i64 tn, .slice p P.length cp, .int .i64 f, .int .i64 m, .int .i64 o, .slice q T.length cq, .int .i64 u] 31 (0, 0)) ∧ W.heap[N + 1]? = some (.cells #[.int .i64 ta', .int .i64 tn', .slice p' P'.length cp', .int .i64 f', .int .i64 m', .int .i64 o', .slice q' T'.length cq', .int .i64 u'] 31 (0, 0)))) := ⟨by
    rw [← hW.out, ← hN.out]
    refine ⟨below_two _ _ _, ?_, ?_⟩
    · rw [Below.heap_alloc _ _ _ (by simp)]; exact Go.heap_alloc_new w _
    · have := Go.heap_alloc_new (w.alloc (.cells #[.int .i64 ta, .int .i64 tn, .slice p P.length cp, .int .i64 f, .int .i64 m, .int .i64 o, .slice q T.length cq, .int .i64 u] 31)) (.cells #[.int .i64 ta', .int .i64 tn', .slice p' P'.length cp', .int .i64 f', .int .i64 m', .int .i64 o', .slice q' T'.length cq', .int .i64 u'] 31)
      simpa using this⟩
  obtain ⟨x0, x1, x2, x3, x4, x5, x6, x7, -⟩ := heap_cells8 HW.out.2.1
  obtain ⟨y0, y1, y2, y3, y4, y5, y6, y7, -⟩ := heap_cells8 HW.out.2.2
  have hc := HC.out W HW.out.1
  go_enter Try.func10, Try.ntmps10
  go_upto_region 1 with fail
  rw [show (w.alloc (.cells #[.int .i64 ta, .int .i64 tn, .slice p P.length cp, .int .i64 f, .int .i64 m, .int .i64 o, .slice q T.length cq, .int .i64 u] 31)).alloc (.cells #[.int .i64 ta', .int .i64 tn', .slice p' P'.length cp', .int .i64 f', .int .i64 m', .int .i64 o', .slice q' T'.length cq', .int .i64 u'] 31) = W from hW.out, show w.heap.size = N from hN.out]
  go_wp2_with (go_at_call 17; refine hc.mono ?_; rintro e w1 ⟨rfl, hb1⟩)
  go_ret
  exact ⟨by first | rfl | (rw [← htl]; rfl), HW.out.1.trans (hb1.mono HW.out.1.size)⟩

set_option linter.unusedVariables false in
set_option linter.unusedSimpArgs false in
set_option maxRecDepth 100000 in
set_option maxHeartbeats 8000000 in
theorem best_any (X : List RV) (p : Option Addr) (cap : Nat) (w : World) (hc : RvRow w p X) (hr : ∀ x ∈ X, RvOk w x) (hl : X.length ≤ 1000) :
    Calls Try.prog 7 #[.slice p X.length cap] w fun e w' => (∃ y : RV, e = .returned (.tuple #[roV y, .bool (decide (0 < X.length))]) ∧ RvIn w' y ∧ (X = [] → y.r = ro0) ∧ (0 < X.length → (∃ x ∈ X, y.r = x.r) ∧ ∀ x ∈ X, ltI (keyR x.r) (keyR y.r) = false)) ∧ Below w.heap.size w w' := by
  obtain ⟨N, hN⟩ : ∃ N, Hid (w.heap.size = N) := ⟨_, show _ = _ from rfl⟩
  obtain ⟨W, hW⟩ : ∃ W, Hid (w.alloc (.cells #[.int .i64 0, .int .i64 0, .slice none 0 0, .int .i64 0, .int .i64 0, .int .i64 0, .slice none 0 0, .int .i64 0] 31) = W) := ⟨_, show _ = _ from rfl⟩
  obtain ⟨HW⟩ : Nonempty (Hid (Below w.heap.size w W ∧ W.heap[N]? = some (.cells #[.int .i64 0, .int .i64 0, .slice none 0 0, .int .i64 0, .int .i64 0, .int .i64 0, .slice none 0 0, .int .i64 0] 31 (0, 0)) ∧ W.heap.size = N + 1)) := ⟨by
    rw [← hW.out, ← hN.out]
    exact ⟨below_alloc _ _, Go.heap_alloc_new w _, by simp⟩⟩
  by_cases hn : X.length = 0
  · have hX : X = [] := List.eq_nil_of_length_eq_zero hn
    subst hX
    obtain ⟨z0, z1, z2, z3, z4, z5, z6, z7, zf⟩ := heap_cells8 HW.out.2.1
    have f0 := zf 0
    have f1 := zf 1
    have f2 := zf 2
    have f3 := zf 3
    have f4 := zf 4
    have f5 := zf 5
    have f6 := zf 6
    have f7 := zf 7
    simp only [List.length_nil]
    clear hc hr hl hn zf
    go_enter Try.func7, Try.ntmps7
    go_upto_region 1 with fail
    rw [show w.alloc (.cells #[.int .i64 0, .int .i64 0, .slice none 0 0, .int .i64 0, .int .i64 0, .int .i64 0, .slice none 0 0, .int .i64 0] 31) = W from hW.out, show w.heap.size = N from hN.out]
    go_wp2_with fail
    have g8 := set8of8 HW.out.2.1 (.int .i64 0) (.int .i64 0) (.slice none 0 0) (.int .i64 0) (.int .i64 0) (.int .i64 0) (.slice none 0 0) (.int .i64 0)
    obtain ⟨r0, r1, r2, r3, r4, r5, r6, r7, -⟩ := heap_cells8 g8
    clear z0 z1 z2 z3 z4 z5 z6 z7 f0 f1 f2 f3 f4 f5 f6 f7
    refine bodyPost_ret (v := .tuple #[.agg #[.int .i64 0, .int .i64 0, .slice none 0 0, .int .i64 0, .int .i64 0, .int .i64 0, .slice none 0 0, .int .i64 0], .bool false]) (by simp [results, Try.results7, go_sem, r0, r1, r2, r3, r4, r5, r6, r7]) rfl ⟨⟨rv0, rfl, ⟨ints_nil _ _, ints_nil _ _⟩, fun _ => rfl, fun h => absurd h (by decide)⟩, below_set8 HW.out.1 (by rw [show w.heap.size = N from hN.out]; exact Nat.le_refl _) _ _ _ _ _ _ _ _⟩
  · have hpos : 0 < X.length := by omega
    obtain ⟨b, o, rfl, -⟩ := hc 0 hpos
    have hz : ((X.length : Int) == 0) = false := beq_eq_false_iff_ne.2 (by omega)
    obtain ⟨HM⟩ : Nonempty (Hid (Calls Try.prog 16 #[.slice (some ⟨b, o, none⟩) X.length cap, .func (.func 17) #[] #[]] W fun e w' => (∃ y ∈ X, e = .returned (roV y) ∧ ∀ x ∈ X, ltI (keyR x.r) (keyR y.r) = false) ∧ Below W.heap.size W w')) := ⟨minFunc_any X b o cap W hpos (by omega) (rvAt_of (hc.below HW.out.1)) fun x hx => (hr x hx).below HW.out.1⟩
    obtain ⟨HR⟩ : Nonempty (Hid (∀ w', Below w.heap.size w w' → ∀ x ∈ X, RvOk w' x)) := ⟨fun w' hb x hx => (hr x hx).below hb⟩
    rw [show decide (0 < X.length) = true from decide_eq_true hpos]
    obtain ⟨HX⟩ : Nonempty (Hid (X ≠ [])) := ⟨by intro e; rw [e] at hn; exact hn rfl⟩
    clear hc hr hn hpos
    go_enter Try.func7, Try.ntmps7
    go_upto_region 1 with fail
    rw [show w.alloc (.cells #[.int .i64 0, .int .i64 0, .slice none 0 0, .int .i64 0, .int .i64 0, .int .i64 0, .slice none 0 0, .int .i64 0] 31) = W from hW.out, show w.heap.size = N from hN.out]
    go_wp2_with fail
    refine HM.out.mono ?_
    rintro e w1 ⟨⟨y, hyX, rfl, hmin⟩, hb1⟩
    obtain ⟨H1⟩ : Nonempty (Hid (Below w.heap.size w w1 ∧ w1.heap[N]? = W.heap[N]? ∧ N + 1 ≤ w1.heap.size)) := ⟨⟨HW.out.1.trans (hb1.mono HW.out.1.size), hb1.block _ (by rw [HW.out.2.2]; omega), by rw [← HW.out.2.2]; exact hb1.size⟩⟩
    obtain ⟨HY⟩ : Nonempty (Hid (y ∈ X ∧ ∀ x ∈ X, ltI (keyR x.r) (keyR y.r) = false)) := ⟨⟨hyX, hmin⟩⟩
    have hcp := copied_any y w1 (HR.out w1 H1.out.1 y hyX)
    clear hb1 hyX hmin
    go_wp2_with fail
    refine hcp.mono ?_
    rintro e w2 ⟨⟨z, rfl, hzn⟩, hb2⟩
    clear hcp
    obtain ⟨H2⟩ : Nonempty (Hid (Below w.heap.size w w2 ∧ w2.heap[N]? = some (.cells #[.int .i64 0, .int .i64 0, .slice none 0 0, .int .i64 0, .int .i64 0, .int .i64 0, .slice none 0 0, .int .i64 0] 31 (0, 0)) ∧ N + 1 ≤ w1.heap.size)) := ⟨⟨H1.out.1.trans (hb2.mono H1.out.1.size), by rw [hb2.block _ (by have := H1.out.2.2; omega), H1.out.2.1]; exact HW.out.2.1, H1.out.2.2⟩⟩
    obtain ⟨HZ⟩ : Nonempty (Hid (RvNew w2 y z w1.heap.size)) := ⟨hzn⟩
    clear hb2 hzn
    obtain ⟨z0, z1, z2, z3, z4, z5, z6, z7, zf⟩ := heap_cells8 H2.out.2.1
    have f0 := zf 0
    have f1 := zf 1
    have f2 := zf 2
    have f3 := zf 3
    have f4 := zf 4
    have f5 := zf 5
    have f6 := zf 6
    have f7 := zf 7
    obtain ⟨⟨⟨ta, tn⟩, ⟨P, f, m, og, T⟩, u⟩, p, cp, q, cq⟩ := z
    unfold roV enc8
    clear zf
    go_wp2_with fail
    have g8 := set8of8 H2.out.2.1 (.int .i64 ta) (.int .i64 tn) (.slice p P.length cp) (.int .i64 f) (.int .i64 m) (.int .i64 og) (.slice q T.length cq) (.int .i64 u)
    obtain ⟨r0, r1, r2, r3, r4, r5, r6, r7, -⟩ := heap_cells8 g8
    clear z0 z1 z2 z3 z4 z5 z6 z7 f0 f1 f2 f3 f4 f5 f6 f7
    refine bodyPost_ret (v := .tuple #[.agg #[.int .i64 ta, .int .i64 tn, .slice p P.length cp, .int .i64 f, .int .i64 m, .int .i64 og, .slice q T.length cq, .int .i64 u], .bool true]) (by simp [results, Try.results7, go_sem, r0, r1, r2, r3, r4, r5, r6, r7]) rfl ⟨⟨⟨⟨(ta, tn), ⟨P, f, m, og, T⟩, u⟩, p, cp, q, cq⟩, rfl, ⟨?_, ?_⟩, fun h => absurd h HX.out, fun _ => ⟨⟨y, HY.out.1, HZ.out.1⟩, fun x hx => by rw [HZ.out.1]; exact HY.out.2 x hx⟩⟩, below_set8 H2.out.1 (by rw [show w.heap.size = N from hN.out]; exact Nat.le_refl _) _ _ _ _ _ _ _ _⟩
    · exact ints_kept HZ.out.2.1.1 fun b' o' e => by
        have := HZ.out.2.2.1 b' o' e
        have := H2.out.2.2
        rw [heap_set8_ne _ _ _ (by omega)]
    · exact ints_kept HZ.out.2.1.2 fun b' o' e => by
        have := HZ.out.2.2.2 b' o' e
        have := H2.out.2.2
        rw [heap_set8_ne _ _ _ (by omega)]
end Go.Proofs.Ytkcacdlgmapjjaa
