/-
  The document's answer, chapter 2 (herepathref1): SetOf where a prefix is wrong.
-/
import Derived.Test.YthehpnhjfnenoaaGreatDoorRefSetOf
import Derived.BigRegion
namespace Go.Proofs.YthehpnhjfnenoaaGreatDoor
open Go.RowKit

theorem fault_pos {l : List (Int × Int)} {i : Nat} {f0 f1 : Int} (hR : RightTo l i) (hi : i < l.length) (hf : Hid (faultC l i = (f0, f1))) : 0 < f0 := by
  have h := hf.out
  unfold faultC at h
  rw [dif_pos hi] at h
  simp only [Prod.mk.injEq] at h
  obtain ⟨c, hc, h0⟩ := chkC_bad (hR.no hi)
  rw [← h.1, hc.out]
  exact h0
set_option linter.unusedVariables false in
set_option maxRecDepth 100000 in
set_option maxHeartbeats 4000000 in
theorem rSetOf_badA (a b : List (Int × Int)) (i j : Nat) (hRa : RightTo a i) (hRb : RightTo b j) (hia : i < a.length) (f0 f1 : Int) (hf : Hid (faultC a i = (f0, f1))) (qa qb : Option Addr) (ca cb : Nat) (k : Int) (w : World) (hpa : Pairs w qa a) (hpb : Pairs w qb b) (hla : a.length ≤ 1048576) (hlb : b.length ≤ 1048576) :
    Calls Tryz.prog 7 #[.slice qa a.length ca, .slice qb b.length cb, .int .i64 k] w fun e w' => e = .returned (.tuple #[.slice none 0 0, .agg #[.int .i64 f0, .int .i64 f1]]) ∧ Below w.heap.size w w' := by
  have hb1 := below_alloc w (.cells #[.int .i64 0, .int .i64 0] 30)
  have hr7 := Go.heap_alloc_new w (.cells #[.int .i64 0, .int .i64 0] 30)
  obtain ⟨b7, hb7⟩ : ∃ b, Hid (w.heap.size = b) := ⟨_, show _ = _ from rfl⟩
  obtain ⟨W1, hW1⟩ : ∃ W, Hid (w.alloc (.cells #[.int .i64 0, .int .i64 0] 30) = W) := ⟨_, show _ = _ from rfl⟩
  rw [show w.alloc (.cells #[.int .i64 0, .int .i64 0] 30) = W1 from hW1.out] at hb1 hr7
  rw [show w.heap.size = b7 from hb7.out] at hr7
  have hpos := fault_pos hRa hia hf
  obtain ⟨HI⟩ : Nonempty (Hid (Pairs W1 qa a ∧ Pairs W1 qb b ∧ RightTo a i ∧ RightTo b j ∧ Below w.heap.size w W1 ∧ W1.heap[b7]? = some (.cells #[.int .i64 0, .int .i64 0] 30 (0, 0)))) := ⟨⟨hpa.below hb1, hpb.below hb1, hRa, hRb, hb1, hr7⟩⟩
  obtain ⟨HN⟩ : Nonempty (Hid (Calls _ _ _ _ _)) := ⟨rPrefixesFault_any a i hRa qa ca f0 f1 hf W1 (hpa.below hb1) (by omega)⟩
  clear hpa hpb hRa hRb hb1 hr7
  go_enter Tryz.func7, Tryz.ntmps7
  go_upto_region 1 with fail
  rw [show w.alloc (.cells #[.int .i64 0, .int .i64 0] 30) = W1 from hW1.out, show w.heap.size = b7 from hb7.out]
  go_wp2_with fail
  refine HN.out.mono ?_
  clear HN
  rintro e w2 ⟨rfl, hb2⟩
  have hb23 := hb2.alloc hb2.size (.cells #[.int .i64 f0, .int .i64 f1] 30)
  have hr8 := Go.heap_alloc_new w2 (.cells #[.int .i64 f0, .int .i64 f1] 30)
  obtain ⟨b8, hb8⟩ : ∃ b, Hid (w2.heap.size = b) := ⟨_, show _ = _ from rfl⟩
  obtain ⟨W3, hW3⟩ : ∃ W, Hid (w2.alloc (.cells #[.int .i64 f0, .int .i64 f1] 30) = W) := ⟨_, show _ = _ from rfl⟩
  go_upto_region 2 with fail
  rw [show w2.alloc (.cells #[.int .i64 f0, .int .i64 f1] 30) = W3 from hW3.out] at hb23 hr8 ⊢
  have h8ge : W1.heap.size ≤ b8 := by rw [← hb8.out]; exact hb2.size
  rw [show w2.heap.size = b8 from hb8.out] at hr8 ⊢
  have h7ge : w.heap.size ≤ b7 := by rw [hb7.out]; exact Nat.le_refl _
  have hl7 := (row_cells HI.out.2.2.2.2.2).2.2.2.2
  have hn0 : (f0 == 0) = false := by rw [beq_eq_false_iff_ne]; omega
  have hr7 : W3.heap[b7]? = some (.cells #[.int .i64 0, .int .i64 0] 30 (0, 0)) := by rw [hb23.block b7 hl7]; exact HI.out.2.2.2.2.2
  obtain ⟨g0, g1, g2, g3, hl7'⟩ := row_cells hr7
  obtain ⟨x0, x1, -, -, hl8⟩ := row_cells hr8
  have hwF := HI.out.2.2.2.2.1.trans (hb23.mono HI.out.2.2.2.2.1.size)
  have hend := fun n => ((below_drewN hwF n).setCell (p := ⟨b7, 0, none⟩) h7ge (.int .i64 f0)).setCell (p := ⟨b7, 1, none⟩) h7ge (.int .i64 f1)
  obtain ⟨HEND⟩ : Nonempty (Hid (∀ n, Below w.heap.size w (((W3.drewN n).setCell ⟨b7, 0, none⟩ (.int .i64 f0)).setCell ⟨b7, 1, none⟩ (.int .i64 f1)))) := ⟨hend⟩
  clear hend hwF hr7
  go_wp2
  go_region
  all_goals
    go_wp2
    exact bodyPost_ret (v := .tuple #[.slice none 0 0, .agg #[.int .i64 f0, .int .i64 f1]]) (by simp [results, Tryz.results7, go_sem, g0, g1]) rfl ⟨rfl, HEND.out 1⟩
set_option linter.unusedVariables false in
set_option maxRecDepth 100000 in
set_option maxHeartbeats 4000000 in
theorem rSetOf_badB (a b : List (Int × Int)) (i j : Nat) (hRa : RightTo a i) (hRb : RightTo b j) (hia : i = a.length) (hjb : j < b.length) (f0 f1 : Int) (hf : Hid (faultC b j = (f0, f1))) (qa qb : Option Addr) (ca cb : Nat) (k : Int) (w : World) (hpa : Pairs w qa a) (hpb : Pairs w qb b) (hla : a.length ≤ 1048576) (hlb : b.length ≤ 1048576) :
    Calls Tryz.prog 7 #[.slice qa a.length ca, .slice qb b.length cb, .int .i64 k] w fun e w' => e = .returned (.tuple #[.slice none 0 0, .agg #[.int .i64 f0, .int .i64 f1]]) ∧ Below w.heap.size w w' := by
  have hb1 := below_alloc w (.cells #[.int .i64 0, .int .i64 0] 30)
  have hr7 := Go.heap_alloc_new w (.cells #[.int .i64 0, .int .i64 0] 30)
  obtain ⟨b7, hb7⟩ : ∃ b, Hid (w.heap.size = b) := ⟨_, show _ = _ from rfl⟩
  obtain ⟨W1, hW1⟩ : ∃ W, Hid (w.alloc (.cells #[.int .i64 0, .int .i64 0] 30) = W) := ⟨_, show _ = _ from rfl⟩
  rw [show w.alloc (.cells #[.int .i64 0, .int .i64 0] 30) = W1 from hW1.out] at hb1 hr7
  rw [show w.heap.size = b7 from hb7.out] at hr7
  have hpos := fault_pos hRb hjb hf
  obtain ⟨HI⟩ : Nonempty (Hid (Pairs W1 qa a ∧ Pairs W1 qb b ∧ RightTo a i ∧ RightTo b j ∧ Below w.heap.size w W1 ∧ W1.heap[b7]? = some (.cells #[.int .i64 0, .int .i64 0] 30 (0, 0)))) := ⟨⟨hpa.below hb1, hpb.below hb1, hRa, hRb, hb1, hr7⟩⟩
  have hfa : Hid (faultC a i = (0, -1)) := by unfold faultC; rw [dif_neg (by omega)]; exact (show _ = _ from rfl)
  obtain ⟨HN⟩ : Nonempty (Hid (Calls _ _ _ _ _)) := ⟨rPrefixesFault_any a i hRa qa ca 0 (-1) hfa W1 (hpa.below hb1) (by omega)⟩
  clear hpa hpb hRa hRb hb1 hr7
  go_enter Tryz.func7, Tryz.ntmps7
  go_upto_region 1 with fail
  rw [show w.alloc (.cells #[.int .i64 0, .int .i64 0] 30) = W1 from hW1.out, show w.heap.size = b7 from hb7.out]
  go_wp2_with fail
  refine HN.out.mono ?_
  clear HN
  rintro e w2 ⟨rfl, hb2⟩
  have hb23 := hb2.alloc hb2.size (.cells #[.int .i64 0, .int .i64 (-1)] 30)
  have hr8 := Go.heap_alloc_new w2 (.cells #[.int .i64 0, .int .i64 (-1)] 30)
  obtain ⟨b8, hb8⟩ : ∃ b, Hid (w2.heap.size = b) := ⟨_, show _ = _ from rfl⟩
  obtain ⟨W3, hW3⟩ : ∃ W, Hid (w2.alloc (.cells #[.int .i64 0, .int .i64 (-1)] 30) = W) := ⟨_, show _ = _ from rfl⟩
  go_upto_region 2 with fail
  rw [show w2.alloc (.cells #[.int .i64 0, .int .i64 (-1)] 30) = W3 from hW3.out] at hb23 hr8 ⊢
  have h8ge : W1.heap.size ≤ b8 := by rw [← hb8.out]; exact hb2.size
  rw [show w2.heap.size = b8 from hb8.out] at hr8 ⊢
  have h7ge : w.heap.size ≤ b7 := by rw [hb7.out]; exact Nat.le_refl _
  have hl7 := (row_cells HI.out.2.2.2.2.2).2.2.2.2
  have hn0 : (f0 == 0) = false := by rw [beq_eq_false_iff_ne]; omega
  obtain ⟨u0, u1, -, -, hl8u⟩ := row_cells hr8
  obtain ⟨HN⟩ : Nonempty (Hid (Calls _ _ _ _ _)) := ⟨rPrefixesFault_any b j HI.out.2.2.2.1 qb cb f0 f1 hf W3 (HI.out.2.1.below hb23) (by omega)⟩
  clear hb2 hW3 hb8
  go_wp2_with fail
  refine HN.out.mono ?_
  clear HN
  rintro e w4 ⟨rfl, hb34⟩
  have hr8' : w4.heap[b8]? = some (.cells #[.int .i64 0, .int .i64 (-1)] 30 (0, 0)) := by rw [hb34.block b8 hl8u]; exact hr8
  obtain ⟨y0, y1, z0, z1, hl8'⟩ := row_cells hr8'
  have hb4 := hb23.trans (hb34.mono hb23.size)
  have hr5 := row_store (u := .int .i64 f0) (v := .int .i64 f1) hr8'
  have hb5 : Below W1.heap.size W1 ((w4.setCell ⟨b8, 0, none⟩ (.int .i64 f0)).setCell ⟨b8, 1, none⟩ (.int .i64 f1)) := (hb4.setCell h8ge _).setCell h8ge _
  clear u0 u1
  go_upto_region 4 with fail
  obtain ⟨W5, hW5⟩ : ∃ W, Hid (((w4.setCell ⟨b8, 0, none⟩ (.int .i64 f0)).setCell ⟨b8, 1, none⟩ (.int .i64 f1)) = W) := ⟨_, show _ = _ from rfl⟩
  rw [show ((w4.setCell ⟨b8, 0, none⟩ (.int .i64 f0)).setCell ⟨b8, 1, none⟩ (.int .i64 f1)) = W5 from hW5.out] at hb5 hr5 ⊢
  clear hW5 y0 y1 z0 z1 hr8 hr8' hb34 hb4 hb23 hl8'
  have hr7 : W5.heap[b7]? = some (.cells #[.int .i64 0, .int .i64 0] 30 (0, 0)) := by rw [hb5.block b7 hl7]; exact HI.out.2.2.2.2.2
  obtain ⟨g0, g1, g2, g3, hl7'⟩ := row_cells hr7
  obtain ⟨x0, x1, -, -, hl8⟩ := row_cells hr5
  have hwF := HI.out.2.2.2.2.1.trans (hb5.mono HI.out.2.2.2.2.1.size)
  have hend := fun n => ((below_drewN hwF n).setCell (p := ⟨b7, 0, none⟩) h7ge (.int .i64 f0)).setCell (p := ⟨b7, 1, none⟩) h7ge (.int .i64 f1)
  obtain ⟨HEND⟩ : Nonempty (Hid (∀ n, Below w.heap.size w (((W5.drewN n).setCell ⟨b7, 0, none⟩ (.int .i64 f0)).setCell ⟨b7, 1, none⟩ (.int .i64 f1)))) := ⟨hend⟩
  clear hend hwF hr7
  go_wp2
  go_region
  all_goals
    go_wp2
    exact bodyPost_ret (v := .tuple #[.slice none 0 0, .agg #[.int .i64 f0, .int .i64 f1]]) (by simp [results, Tryz.results7, go_sem, g0, g1]) rfl ⟨rfl, HEND.out 1⟩
end Go.Proofs.YthehpnhjfnenoaaGreatDoor
