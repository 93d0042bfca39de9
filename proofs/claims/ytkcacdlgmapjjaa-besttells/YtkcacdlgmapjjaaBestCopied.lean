/-
  Package best's copied: what it returns.
-/
import Derived.Test.YtkcacdlgmapjjaaBestMin
import Derived.Test.YtkcacdlgmapjjaaAttrCopy
import Derived.Test.YtkcacdlgmapjjaaRouteRow
namespace Go.Proofs.Ytkcacdlgmapjjaa
open Go.RowKit

/-- a copy of a route: the same, its lists in blocks from N on. -/
def RvNew (w : World) (x y : RV) (N : Nat) : Prop := y.r = x.r ∧ RvIn w y ∧ (∀ b o, y.p = some ⟨b, o, none⟩ → N ≤ b ∧ b < w.heap.size) ∧ (∀ b o, y.q = some ⟨b, o, none⟩ → N ≤ b ∧ b < w.heap.size)
set_option linter.unusedVariables false in
set_option linter.unusedSimpArgs false in
set_option maxRecDepth 100000 in
set_option maxHeartbeats 8000000 in
theorem copied_any (x : RV) (w : World) (hx : RvOk w x) :
    Calls Try.prog 15 #[roV x] w fun e w' => (∃ y : RV, e = .returned (roV y) ∧ RvNew w' x y w.heap.size) ∧ Below w.heap.size w w' := by
  obtain ⟨⟨⟨ta, tn⟩, ⟨P, f, m, o, T⟩, u⟩, p, cp, q, cq⟩ := x
  obtain ⟨⟨i1, i2⟩, h1, h2⟩ := hx
  simp only at i1 i2 h1 h2
  obtain ⟨N, hN⟩ : ∃ N, Hid (w.heap.size = N) := ⟨_, show _ = _ from rfl⟩
  obtain ⟨W, hW⟩ : ∃ W, Hid ((w.alloc (.cells #[.int .i64 ta, .int .i64 tn, .slice p P.length cp, .int .i64 f, .int .i64 m, .int .i64 o, .slice q T.length cq, .int .i64 u] 31)).alloc (.cells #[.int .i64 0, .int .i64 0, .slice none 0 0, .int .i64 0, .int .i64 0, .int .i64 0, .slice none 0 0, .int .i64 0] 31) = W) := ⟨_, show _ = _ from rfl⟩
  obtain ⟨HW⟩ : Nonempty (Hid (Below w.heap.size w W ∧ W.heap[N]? = some (.cells #[.int .i64 ta, .int .i64 tn, .slice p P.length cp, .int .i64 f, .int .i64 m, .int .i64 o, .slice q T.length cq, .int .i64 u] 31 (0, 0)) ∧ W.heap[N + 1]? = some (.cells #[.int .i64 0, .int .i64 0, .slice none 0 0, .int .i64 0, .int .i64 0, .int .i64 0, .slice none 0 0, .int .i64 0] 31 (0, 0)) ∧ W.heap.size = N + 2)) := ⟨by
    rw [← hW.out, ← hN.out]
    refine ⟨below_two _ _ _, ?_, ?_, by simp⟩
    · rw [Below.heap_alloc _ _ _ (by simp)]; exact Go.heap_alloc_new w _
    · have := Go.heap_alloc_new (w.alloc (.cells #[.int .i64 ta, .int .i64 tn, .slice p P.length cp, .int .i64 f, .int .i64 m, .int .i64 o, .slice q T.length cq, .int .i64 u] 31)) (.cells #[.int .i64 0, .int .i64 0, .slice none 0 0, .int .i64 0, .int .i64 0, .int .i64 0, .slice none 0 0, .int .i64 0] 31)
      simpa using this⟩
  obtain ⟨HC⟩ : Nonempty (Hid (Calls Try.prog 22 #[.agg #[.slice p P.length cp, .int .i64 f, .int .i64 m, .int .i64 o, .slice q T.length cq]] W fun r w' => (∃ p1 c1 p2 c2, r = .returned (.agg #[.slice p1 P.length c1, .int .i64 f, .int .i64 m, .int .i64 o, .slice p2 T.length c2]) ∧ CP w' W.heap.size ⟨P, f, m, o, T⟩ p1 c1 p2 c2) ∧ Below W.heap.size W w')) := ⟨copy_i _ ⟨P, f, m, o, T⟩ W ⟨p, cp, q, cq, rfl, i1.below HW.out.1, i2.below HW.out.1⟩ h1 h2⟩
  obtain ⟨x0, x1, x2, x3, x4, x5, x6, x7, -⟩ := heap_cells8 HW.out.2.1
  clear i1 i2 h1 h2
  unfold roV enc8
  simp only
  go_enter Try.func15, Try.ntmps15
  go_upto_region 1 with fail
  rw [show (w.alloc (.cells #[.int .i64 ta, .int .i64 tn, .slice p P.length cp, .int .i64 f, .int .i64 m, .int .i64 o, .slice q T.length cq, .int .i64 u] 31)).alloc (.cells #[.int .i64 0, .int .i64 0, .slice none 0 0, .int .i64 0, .int .i64 0, .int .i64 0, .slice none 0 0, .int .i64 0] 31) = W from hW.out, show w.heap.size = N from hN.out]
  clear hW
  go_wp2_with fail
  refine HC.out.mono ?_
  rintro e w2 ⟨⟨p1, c1, p2, c2, rfl, hcp⟩, hb2⟩
  obtain ⟨j1, j2, -, -, n1, n2⟩ := cp_parts hcp
  simp only at j1 j2 n1 n2
  obtain ⟨H2⟩ : Nonempty (Hid (Below w.heap.size w w2 ∧ N + 2 ≤ w2.heap.size)) := ⟨⟨HW.out.1.trans (hb2.mono HW.out.1.size), by rw [← HW.out.2.2.2]; exact hb2.size⟩⟩
  have hh2 : w2.heap[N]? = some (.cells #[.int .i64 ta, .int .i64 tn, .slice p P.length cp, .int .i64 f, .int .i64 m, .int .i64 o, .slice q T.length cq, .int .i64 u] 31 (0, 0)) := by rw [hb2.block N (by rw [HW.out.2.2.2]; omega)]; exact HW.out.2.1
  have hr2 : w2.heap[N + 1]? = some (.cells #[.int .i64 0, .int .i64 0, .slice none 0 0, .int .i64 0, .int .i64 0, .int .i64 0, .slice none 0 0, .int .i64 0] 31 (0, 0)) := by rw [hb2.block (N + 1) (by rw [HW.out.2.2.2]; omega)]; exact HW.out.2.2.1
  obtain ⟨y0, y1, y2, y3, y4, y5, y6, y7, yf⟩ := heap_cells8 hh2
  have yf2 := yf 2
  have yf3 := yf 3
  have yf4 := yf 4
  have yf5 := yf 5
  have yf6 := yf 6
  have hh3 := set5of8 hh2 (.slice p1 P.length c1) (.int .i64 f) (.int .i64 m) (.int .i64 o) (.slice p2 T.length c2)
  have hr3 := heap_set5_ne w2 N (N + 1) (by omega) (.slice p1 P.length c1) (.int .i64 f) (.int .i64 m) (.int .i64 o) (.slice p2 T.length c2)
  rw [hr2] at hr3
  obtain ⟨W3, hW3⟩ : ∃ b, Hid ((((((w2.setCell ⟨N, 2, none⟩ (.slice p1 P.length c1)).setCell ⟨N, 3, none⟩ (.int .i64 f)).setCell ⟨N, 4, none⟩ (.int .i64 m)).setCell ⟨N, 5, none⟩ (.int .i64 o)).setCell ⟨N, 6, none⟩ (.slice p2 T.length c2)) = b) := ⟨_, show _ = _ from rfl⟩
  obtain ⟨H3⟩ : Nonempty (Hid (Below w.heap.size w W3 ∧ (∀ b, b ≠ N → W3.heap[b]? = w2.heap[b]?) ∧ W3.heap.size = w2.heap.size)) := ⟨by
    rw [← hW3.out]
    exact ⟨below_set5 H2.out.1 (by rw [show w.heap.size = N from hN.out]; exact Nat.le_refl _) _ _ _ _ _, fun b hb => heap_set5_ne _ _ _ hb _ _ _ _ _, size_set5 _ _ _ _ _ _ _⟩⟩
  rw [show (((((w2.setCell ⟨N, 2, none⟩ (.slice p1 P.length c1)).setCell ⟨N, 3, none⟩ (.int .i64 f)).setCell ⟨N, 4, none⟩ (.int .i64 m)).setCell ⟨N, 5, none⟩ (.int .i64 o)).setCell ⟨N, 6, none⟩ (.slice p2 T.length c2)) = W3 from hW3.out] at hh3 hr3
  obtain ⟨t0, t1, t2, t3, t4, t5, t6, t7, -⟩ := heap_cells8 hh3
  obtain ⟨HJ⟩ : Nonempty (Hid (Ints w2 p1 P ∧ Ints w2 p2 T ∧ (∀ b o, p1 = some ⟨b, o, none⟩ → N + 2 ≤ b ∧ b < w2.heap.size) ∧ (∀ b o, p2 = some ⟨b, o, none⟩ → N + 2 ≤ b ∧ b < w2.heap.size))) := ⟨by rw [HW.out.2.2.2] at n1 n2; exact ⟨j1, j2, n1, n2⟩⟩
  clear hcp hb2 j1 j2 n1 n2 hh2 hr2 hh3 yf x0 x1 x2 x3 x4 x5 x6 x7
  go_upto_region 2 with fail
  rw [show (((((w2.setCell ⟨N, 2, none⟩ (.slice p1 P.length c1)).setCell ⟨N, 3, none⟩ (.int .i64 f)).setCell ⟨N, 4, none⟩ (.int .i64 m)).setCell ⟨N, 5, none⟩ (.int .i64 o)).setCell ⟨N, 6, none⟩ (.slice p2 T.length c2)) = W3 from hW3.out]
  clear y0 y1 y2 y3 y4 y5 y6 y7 yf2 yf3 yf4 yf5 yf6
  obtain ⟨z0, z1, z2, z3, z4, z5, z6, z7, zf⟩ := heap_cells8 hr3
  have f0 := zf 0
  have f1 := zf 1
  have f2 := zf 2
  have f3 := zf 3
  have f4 := zf 4
  have f5 := zf 5
  have f6 := zf 6
  have f7 := zf 7
  clear zf
  go_wp2_with fail
  have g8 := set8of8 hr3 (.int .i64 ta) (.int .i64 tn) (.slice p1 P.length c1) (.int .i64 f) (.int .i64 m) (.int .i64 o) (.slice p2 T.length c2) (.int .i64 u)
  obtain ⟨r0, r1, r2, r3, r4, r5, r6, r7, -⟩ := heap_cells8 g8
  clear z0 z1 z2 z3 z4 z5 z6 z7 f0 f1 f2 f3 f4 f5 f6 f7 t0 t1 t2 t3 t4 t5 t6 t7
  refine bodyPost_ret (v := .agg #[.int .i64 ta, .int .i64 tn, .slice p1 P.length c1, .int .i64 f, .int .i64 m, .int .i64 o, .slice p2 T.length c2, .int .i64 u]) (by simp [results, Try.results15, go_sem, r0, r1, r2, r3, r4, r5, r6, r7]) rfl ⟨⟨⟨⟨(ta, tn), ⟨P, f, m, o, T⟩, u⟩, p1, c1, p2, c2⟩, rfl, rfl, ⟨?_, ?_⟩, ?_, ?_⟩, below_set8 H3.out.1 (by rw [show w.heap.size = N from hN.out]; omega) _ _ _ _ _ _ _ _⟩
  · exact ints_kept HJ.out.1 fun b o' e => by
      have := HJ.out.2.2.1 b o' e
      rw [heap_set8_ne _ _ _ (by omega), H3.out.2.1 _ (by omega)]
  · exact ints_kept HJ.out.2.1 fun b o' e => by
      have := HJ.out.2.2.2 b o' e
      rw [heap_set8_ne _ _ _ (by omega), H3.out.2.1 _ (by omega)]
  · intro b o' e
    have := HJ.out.2.2.1 b o' e
    rw [size_set8, H3.out.2.2, show w.heap.size = N from hN.out]
    omega
  · intro b o' e
    have := HJ.out.2.2.2 b o' e
    rw [size_set8, H3.out.2.2, show w.heap.size = N from hN.out]
    omega
end Go.Proofs.Ytkcacdlgmapjjaa
