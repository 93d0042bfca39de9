/-
  The closed fact of package best's laws (bettered).
-/
import Derived.Test.YtkcacdlgmapjjaaBestTop
import Derived.Test.YtkcacdlgmapjjaaRefSort
namespace Go.Proofs.Ytkcacdlgmapjjaa
open Go.RowKit

def roA : Ro := ⟨(0, 0), ⟨[1, 2], 0, 0, 0, []⟩, 1⟩
def roB : Ro := ⟨(0, 0), ⟨[3], 0, 0, 0, []⟩, 3⟩
theorem betteredLt : ltI (keyR roB) (keyR roA) = true := by decide
theorem four_blocks (w : World) (a b c d : Array Value) (s t u v : TypeId) : ((((w.alloc (.cells a s)).alloc (.cells b t)).alloc (.cells c u)).alloc (.cells d v)).heap[w.heap.size]? = some (.cells a s (0, 0)) ∧ ((((w.alloc (.cells a s)).alloc (.cells b t)).alloc (.cells c u)).alloc (.cells d v)).heap[w.heap.size + 1]? = some (.cells b t (0, 0)) ∧ ((((w.alloc (.cells a s)).alloc (.cells b t)).alloc (.cells c u)).alloc (.cells d v)).heap[w.heap.size + 2]? = some (.cells c u (0, 0)) ∧ ((((w.alloc (.cells a s)).alloc (.cells b t)).alloc (.cells c u)).alloc (.cells d v)).heap[w.heap.size + 3]? = some (.cells d v (0, 0)) ∧ ((((w.alloc (.cells a s)).alloc (.cells b t)).alloc (.cells c u)).alloc (.cells d v)).heap.size = w.heap.size + 4 ∧ Below w.heap.size w ((((w.alloc (.cells a s)).alloc (.cells b t)).alloc (.cells c u)).alloc (.cells d v)) := by
  refine ⟨?_, ?_, ?_, ?_, by simp, ?_⟩
  · rw [Below.heap_alloc _ _ _ (by simp; omega), Below.heap_alloc _ _ _ (by simp; omega), Below.heap_alloc _ _ _ (by simp)]
    exact Go.heap_alloc_new w _
  · rw [Below.heap_alloc _ _ _ (by simp), Below.heap_alloc _ _ _ (by simp)]
    have := Go.heap_alloc_new (w.alloc (.cells a s)) (.cells b t)
    simpa using this
  · rw [Below.heap_alloc _ _ _ (by simp)]
    have := Go.heap_alloc_new ((w.alloc (.cells a s)).alloc (.cells b t)) (.cells c u)
    simpa using this
  · have := Go.heap_alloc_new (((w.alloc (.cells a s)).alloc (.cells b t)).alloc (.cells c u)) (.cells d v)
    simpa using this
  · exact (((below_alloc w _).alloc (by simp) _).alloc (by simp; omega) _).alloc (by simp; omega) _
theorem ints1 {w : World} {b : Nat} {x0 : Int} {t : TypeId} (h : w.heap[b]? = some (.cells #[.int .i64 x0] t (0, 0))) : Ints w (some ⟨b, 0, none⟩) [x0] := fun i hi => by
  have hi' : i < 1 := by simpa using hi
  refine ⟨b, 0, rfl, ?_⟩
  rcases i with _ | i <;> first | (simp [World.cell?, h]; done) | omega
def rvA (N : Nat) : RV := ⟨roA, some ⟨N, 0, none⟩, 2, none, 0⟩
def rvB (N : Nat) : RV := ⟨roB, some ⟨N + 2, 0, none⟩, 1, none, 0⟩
theorem rv_pair (w : World) (N : Nat) : RvRow (w.alloc (.cells #[.int .i64 0, .int .i64 0, .slice (some ⟨N, 0, none⟩) 2 2, .int .i64 0, .int .i64 0, .int .i64 0, .slice none 0 0, .int .i64 1, .int .i64 0, .int .i64 0, .slice (some ⟨N + 2, 0, none⟩) 1 1, .int .i64 0, .int .i64 0, .int .i64 0, .slice none 0 0, .int .i64 3] 31)) (some ⟨w.heap.size, 0, none⟩) [rvA N, rvB N] := fun i hi => by
  refine ⟨w.heap.size, 0, rfl, fun k v hk => ?_⟩
  have hk8 : k < 8 := (List.getElem?_eq_some_iff.1 hk).1
  rw [World.cell?_alloc_at _ _ _ _ rfl]
  have hi' : i < 2 := by simpa using hi
  have := flat8_get [rvA N, rvB N] i hi' k hk8
  rw [hk] at this
  rw [show 0 + i * 8 + k = i * 8 + k by omega]
  simpa [flat8, enc8, rvA, rvB, roA, roB] using this

set_option linter.unusedVariables false in
set_option linter.unusedSimpArgs false in
set_option maxRecDepth 100000 in
set_option maxHeartbeats 8000000 in
theorem bettered_any (w : World) : Calls Try.prog 5 #[] w fun r w' => r = .returned (.bool true) ∧ Below w.heap.size w w' := by
  obtain ⟨N, hN⟩ : ∃ N, Hid (w.heap.size = N) := ⟨_, show _ = _ from rfl⟩
  obtain ⟨W, hW⟩ : ∃ W, Hid ((((w.alloc (.cells #[.int .i64 1, .int .i64 2] 3)).alloc (.cells #[.int .i64 0, .int .i64 0, .slice (some ⟨w.heap.size, 0, none⟩) 2 2, .int .i64 0, .int .i64 0, .int .i64 0, .slice none 0 0, .int .i64 1] 31)).alloc (.cells #[.int .i64 3] 3)).alloc (.cells #[.int .i64 0, .int .i64 0, .slice (some ⟨w.heap.size + 1 + 1, 0, none⟩) 1 1, .int .i64 0, .int .i64 0, .int .i64 0, .slice none 0 0, .int .i64 3] 31) = W) := ⟨_, show _ = _ from rfl⟩
  obtain ⟨HW⟩ : Nonempty (Hid (W.heap[N]? = some (.cells #[.int .i64 1, .int .i64 2] 3 (0, 0)) ∧ W.heap[N + 1]? = some (.cells #[.int .i64 0, .int .i64 0, .slice (some ⟨N, 0, none⟩) 2 2, .int .i64 0, .int .i64 0, .int .i64 0, .slice none 0 0, .int .i64 1] 31 (0, 0)) ∧ W.heap[N + 2]? = some (.cells #[.int .i64 3] 3 (0, 0)) ∧ W.heap[N + 3]? = some (.cells #[.int .i64 0, .int .i64 0, .slice (some ⟨N + 2, 0, none⟩) 1 1, .int .i64 0, .int .i64 0, .int .i64 0, .slice none 0 0, .int .i64 3] 31 (0, 0)) ∧ W.heap.size = N + 4 ∧ Below w.heap.size w W)) := ⟨by
    rw [← hW.out, ← hN.out]
    exact four_blocks w _ _ _ _ _ _ _ _⟩
  obtain ⟨HR⟩ : Nonempty (Hid (∀ w', Below W.heap.size W w' → RvOk w' (rvA N) ∧ RvOk w' (rvB N))) := ⟨fun w' hb => ⟨(show RvOk W (rvA N) from ⟨⟨ints2 HW.out.1, ints_nil _ _⟩, by simp [rvA, roA], by simp [rvA, roA]⟩).below hb, (show RvOk W (rvB N) from ⟨⟨ints1 HW.out.2.2.1, ints_nil _ _⟩, by simp [rvB, roB], by simp [rvB, roB]⟩).below hb⟩⟩
  have hbest := best_any [rvA N, rvB N] (some ⟨W.heap.size, 0, none⟩) 2 (W.alloc (.cells #[.int .i64 0, .int .i64 0, .slice (some ⟨N, 0, none⟩) 2 2, .int .i64 0, .int .i64 0, .int .i64 0, .slice none 0 0, .int .i64 1, .int .i64 0, .int .i64 0, .slice (some ⟨N + 2, 0, none⟩) 1 1, .int .i64 0, .int .i64 0, .int .i64 0, .slice none 0 0, .int .i64 3] 31)) (rv_pair W N) (fun x hx => by
    have := HR.out _ (below_alloc W (.cells #[.int .i64 0, .int .i64 0, .slice (some ⟨N, 0, none⟩) 2 2, .int .i64 0, .int .i64 0, .int .i64 0, .slice none 0 0, .int .i64 1, .int .i64 0, .int .i64 0, .slice (some ⟨N + 2, 0, none⟩) 1 1, .int .i64 0, .int .i64 0, .int .i64 0, .slice none 0 0, .int .i64 3] 31))
    rcases List.mem_cons.1 hx with rfl | hx
    · exact this.1
    · rw [List.mem_singleton] at hx; subst hx; exact this.2) (by simp)
  obtain ⟨a0, a1, a2, a3, a4, a5, a6, a7, -⟩ := heap_cells8 HW.out.2.1
  obtain ⟨b0, b1, b2, b3, b4, b5, b6, b7, -⟩ := heap_cells8 HW.out.2.2.2.1
  go_enter Try.func5, Try.ntmps5
  go_upto_region 3 with fail
  rw [show (((w.alloc (.cells #[.int .i64 1, .int .i64 2] 3)).alloc (.cells #[.int .i64 0, .int .i64 0, .slice (some ⟨w.heap.size, 0, none⟩) 2 2, .int .i64 0, .int .i64 0, .int .i64 0, .slice none 0 0, .int .i64 1] 31)).alloc (.cells #[.int .i64 3] 3)).alloc (.cells #[.int .i64 0, .int .i64 0, .slice (some ⟨w.heap.size + 1 + 1, 0, none⟩) 1 1, .int .i64 0, .int .i64 0, .int .i64 0, .slice none 0 0, .int .i64 3] 31) = W from hW.out, show w.heap.size = N from hN.out]
  go_wp2_with fail
  refine hbest.mono ?_
  rintro e w1 ⟨⟨y, rfl, hyin, -, hy⟩, hb1⟩
  obtain ⟨hy1, hy2⟩ := hy (by simp)
  have hyB : y.r = roB := by
    obtain ⟨x, hx, he⟩ := hy1
    rcases List.mem_cons.1 hx with rfl | hx
    · have h2 := hy2 (rvB N) (by simp)
      rw [he, show ltI (keyR (rvB N).r) (keyR (rvA N).r) = true from betteredLt] at h2
      cases h2
    · rw [List.mem_singleton] at hx; subst hx; exact he
  obtain ⟨H1⟩ : Nonempty (Hid (Below W.heap.size W w1)) := ⟨(below_alloc _ _).trans (hb1.mono (by simp))⟩
  obtain ⟨r, p, cp, q, cq⟩ := y
  simp only at hyB
  subst hyB
  clear hy hy1 hy2 hyin hb1 hbest
  unfold roV enc8 roB
  simp only [List.length_nil, List.length_cons, List.length_singleton]
  obtain ⟨M, hM⟩ : ∃ M, Hid (w1.heap.size = M) := ⟨_, show _ = _ from rfl⟩
  obtain ⟨W4, hW4⟩ : ∃ W', Hid (w1.alloc (.cells #[.int .i64 0, .int .i64 0, .slice p 1 cp, .int .i64 0, .int .i64 0, .int .i64 0, .slice q 0 cq, .int .i64 3] 31) = W') := ⟨_, show _ = _ from rfl⟩
  obtain ⟨H4⟩ : Nonempty (Hid (Below W.heap.size W W4 ∧ W4.cell? ⟨M, 7, none⟩ = some (.int .i64 3))) := ⟨by
    rw [← hW4.out, ← hM.out]
    exact ⟨H1.out.trans ((below_alloc _ _).mono H1.out.size), by rw [World.cell?_alloc_at _ _ _ _ rfl]; rfl⟩⟩
  obtain ⟨HC⟩ : Nonempty (Hid (Calls Try.prog 10 #[.agg #[.int .i64 0, .int .i64 0, .slice (some ⟨N + 2, 0, none⟩) 1 1, .int .i64 0, .int .i64 0, .int .i64 0, .slice none 0 0, .int .i64 3], .agg #[.int .i64 0, .int .i64 0, .slice (some ⟨N, 0, none⟩) 2 2, .int .i64 0, .int .i64 0, .int .i64 0, .slice none 0 0, .int .i64 1]] W4 fun r w' => r = .returned (.bool true) ∧ Below W4.heap.size W4 w')) := ⟨by
    have := better_any (rvB N) (rvA N) W4 (HR.out W4 H4.out.1).2 (HR.out W4 H4.out.1).1
    rw [show ltI (keyR (rvB N).r) (keyR (rvA N).r) = true from betteredLt] at this
    exact this⟩
  have c7 := H4.out.2
  have a0 := cell_kept H4.out.1 a0
  have a1 := cell_kept H4.out.1 a1
  have a2 := cell_kept H4.out.1 a2
  have a3 := cell_kept H4.out.1 a3
  have a4 := cell_kept H4.out.1 a4
  have a5 := cell_kept H4.out.1 a5
  have a6 := cell_kept H4.out.1 a6
  have a7 := cell_kept H4.out.1 a7
  have b0 := cell_kept H4.out.1 b0
  have b1 := cell_kept H4.out.1 b1
  have b2 := cell_kept H4.out.1 b2
  have b3 := cell_kept H4.out.1 b3
  have b4 := cell_kept H4.out.1 b4
  have b5 := cell_kept H4.out.1 b5
  have b6 := cell_kept H4.out.1 b6
  have b7 := cell_kept H4.out.1 b7
  go_upto_region 4 with fail
  simp only [Nat.zero_add] at *
  rw [show w1.alloc (.cells #[.int .i64 0, .int .i64 0, .slice p 1 cp, .int .i64 0, .int .i64 0, .int .i64 0, .slice q 0 cq, .int .i64 3] 31) = W4 from hW4.out, show w1.heap.size = M from hM.out]
  go_wp2_with fail
  refine HC.out.mono ?_
  rintro e w5 ⟨rfl, hb5⟩
  go_wp2_with fail
  go_ret
  exact ⟨rfl, HW.out.2.2.2.2.2.trans ((H4.out.1.trans (hb5.mono H4.out.1.size)).mono HW.out.2.2.2.2.2.size)⟩
end Go.Proofs.Ytkcacdlgmapjjaa
