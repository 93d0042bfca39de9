/-
  The document's answer, chapter 2 (herepathref1): SetOf; and the law's faulted: what each returns.
-/
import Derived.Test.YthehpnhjfnenoaaGreatDoorRefBuild
import Derived.Test.YthehpnhjfnenoaaGreatDoorCode
namespace Go.Proofs.YthehpnhjfnenoaaGreatDoor
open Go.RowKit

theorem rt00 : rt 0 0 = true := by decide
theorem below_two (w : World) (o : Obj) (x y : Value) : Below w.heap.size w (((w.alloc o).setCell ⟨w.heap.size, 0, none⟩ x).setCell ⟨w.heap.size, 1, none⟩ y) := ((below_alloc w o).setCell (Nat.le_refl _) _).setCell (Nat.le_refl _) _

set_option linter.unusedVariables false in
set_option maxRecDepth 100000 in
set_option maxHeartbeats 4000000 in
/-- both lists right. -/
theorem rSetOf_ok (a b : List (Int × Int)) (hRa : RightTo a a.length) (hRb : RightTo b b.length) (qa qb : Option Addr) (ca cb : Nat) (k : Int) (w : World) (hpa : Pairs w qa a) (hpb : Pairs w qb b) (hla : a.length ≤ 1048576) (hlb : b.length ≤ 1048576) :
    Calls Tryz.prog 7 #[.slice qa a.length ca, .slice qb b.length cb, .int .i64 k] w fun e w' => (∃ L q c, e = .returned (.tuple #[.slice q L.length c, .agg #[.int .i64 0, .int .i64 (-1)]]) ∧ NP L ∧ (∀ x, inPB L x = wantG a b k x) ∧ Pairs w' q L ∧ Typed w' (.slice q L.length c)) ∧ Below w.heap.size w w' := by
  have hb1 := below_alloc w (.cells #[.int .i64 0, .int .i64 0] 30)
  have hr7 := Go.heap_alloc_new w (.cells #[.int .i64 0, .int .i64 0] 30)
  obtain ⟨b7, hb7⟩ : ∃ b, Hid (w.heap.size = b) := ⟨_, show _ = _ from rfl⟩
  obtain ⟨W1, hW1⟩ : ∃ W, Hid (w.alloc (.cells #[.int .i64 0, .int .i64 0] 30) = W) := ⟨_, show _ = _ from rfl⟩
  rw [show w.alloc (.cells #[.int .i64 0, .int .i64 0] 30) = W1 from hW1.out] at hb1 hr7
  rw [show w.heap.size = b7 from hb7.out] at hr7
  obtain ⟨HI⟩ : Nonempty (Hid (Pairs W1 qa a ∧ Pairs W1 qb b ∧ RightTo a a.length ∧ RightTo b b.length ∧ Below w.heap.size w W1 ∧ W1.heap[b7]? = some (.cells #[.int .i64 0, .int .i64 0] 30 (0, 0)))) := ⟨⟨hpa.below hb1, hpb.below hb1, hRa, hRb, hb1, hr7⟩⟩
  have hf : ∀ l : List (Int × Int), Hid (faultC l l.length = (0, -1)) := fun l => by unfold faultC; rw [dif_neg (by omega)]; exact (show _ = _ from rfl)
  obtain ⟨HN⟩ : Nonempty (Hid (Calls _ _ _ _ _)) := ⟨rPrefixesFault_any a a.length hRa qa ca 0 (-1) (hf a) W1 (hpa.below hb1) (by omega)⟩
  obtain ⟨HF⟩ : Nonempty (Hid (∀ l : List (Int × Int), Hid (faultC l l.length = (0, -1)))) := ⟨hf⟩
  clear hf hpa hpb hRa hRb hb1 hr7
  go_enter Tryz.func7, Tryz.ntmps7
  go_upto_region 1 with fail
  rw [show w.alloc (.cells #[.int .i64 0, .int .i64 0] 30) = W1 from hW1.out, show w.heap.size = b7 from hb7.out]
  go_wp2_with fail
  refine HN.out.mono ?_
  clear HN
  rintro e w2 ⟨rfl, hb2⟩
  have hb23 := hb2.alloc hb2.size (.cells #[.int .i64 0, .int .i64 (-1)] 30)
  have hr8 := Go.heap_alloc_new w2 (.cells #[.int .i64 0, .int .i64 (-1)] 30)
  obtain ⟨b8, hb8⟩ : ∃ b, Hid (w2.heap.size = b) := ⟨_, show _ = _ from rfl⟩
  obtain ⟨W3, hW3⟩ : ∃ W, Hid (w2.alloc (.cells #[.int .i64 0, .int .i64 (-1)] 30) = W) := ⟨_, show _ = _ from rfl⟩
  go_upto_region 2 with fail
  rw [show w2.alloc (.cells #[.int .i64 0, .int .i64 (-1)] 30) = W3 from hW3.out] at hb23 hr8 ⊢
  rw [show w2.heap.size = b8 from hb8.out] at hr8 ⊢
  obtain ⟨x0, x1, -, -, hl8⟩ := row_cells hr8
  obtain ⟨HN⟩ : Nonempty (Hid (Calls _ _ _ _ _)) := ⟨rPrefixesFault_any b b.length HI.out.2.2.2.1 qb cb 0 (-1) (HF.out b) W3 (HI.out.2.1.below hb23) (by omega)⟩
  have h8ge : W1.heap.size ≤ b8 := by rw [← hb8.out]; exact hb2.size
  clear hb2 hW3 hb8
  go_wp2_with fail
  refine HN.out.mono ?_
  clear HN
  rintro e w4 ⟨rfl, hb34⟩
  have hr8' : w4.heap[b8]? = some (.cells #[.int .i64 0, .int .i64 (-1)] 30 (0, 0)) := by rw [hb34.block b8 hl8]; exact hr8
  obtain ⟨y0, y1, f0, f1, hl8'⟩ := row_cells hr8'
  have hb4 := hb23.trans (hb34.mono hb23.size)
  have hr5 := row_store (u := .int .i64 0) (v := .int .i64 (-1)) hr8'
  clear x0 x1
  go_upto_region 4 with fail
  obtain ⟨W5, hW5⟩ : ∃ W, Hid (((w4.setCell ⟨b8, 0, none⟩ (.int .i64 0)).setCell ⟨b8, 1, none⟩ (.int .i64 (-1))) = W) := ⟨_, show _ = _ from rfl⟩
  have hb5 : Below W1.heap.size W1 ((w4.setCell ⟨b8, 0, none⟩ (.int .i64 0)).setCell ⟨b8, 1, none⟩ (.int .i64 (-1))) := (hb4.setCell h8ge _).setCell h8ge _
  rw [show ((w4.setCell ⟨b8, 0, none⟩ (.int .i64 0)).setCell ⟨b8, 1, none⟩ (.int .i64 (-1))) = W5 from hW5.out] at hb5 hr5 ⊢
  obtain ⟨z0, z1, -, -, -⟩ := row_cells hr5
  obtain ⟨HN⟩ : Nonempty (Hid (Calls _ _ _ _ _)) := ⟨rBuild_any 32 (0, 0) rt00 rfl a b HI.out.2.2.1.rights HI.out.2.2.2.1.rights qa qb ca cb k W5 (HI.out.1.below hb5) (HI.out.2.1.below hb5) hla hlb⟩
  clear hW5 y0 y1 f0 f1 hr8 hr8' hb34 hb4 hb23 hr5
  go_wp2_with fail
  refine HN.out.mono ?_
  clear HN
  rintro e w6 ⟨⟨L, all, v, rfl, hBu, hown⟩, hb56⟩
  have hb6 := hb5.trans (hb56.mono hb5.size)
  obtain ⟨HN⟩ : Nonempty (Hid (Calls _ _ _ _ _)) := ⟨rFine_any w6⟩
  clear z0 z1
  go_wp2_with fail
  refine HN.out.mono ?_
  clear HN
  rintro e w7 ⟨rfl, hb67⟩
  have hb7w := hb6.trans (hb67.mono hb6.size)
  have hl7 := (row_cells HI.out.2.2.2.2.2).2.2.2.2
  have hr7 : w7.heap[b7]? = some (.cells #[.int .i64 0, .int .i64 0] 30 (0, 0)) := by rw [hb7w.block b7 hl7]; exact HI.out.2.2.2.2.2
  obtain ⟨g0, g1, g2, g3, hl7'⟩ := row_cells hr7
  have hw7 := HI.out.2.2.2.2.1.trans (hb7w.mono HI.out.2.2.2.2.1.size)
  have h7ge : w.heap.size ≤ b7 := by rw [hb7.out]; exact Nat.le_refl _
  have hend := (hw7.setCell (p := ⟨b7, 0, none⟩) h7ge (.int .i64 0)).setCell (p := ⟨b7, 1, none⟩) h7ge (.int .i64 (-1))
  have hown7 := own_below hown hb67
  obtain ⟨q, c, hv, -, -, hpL⟩ := own_pairs hown7
  subst hv
  have hblk : ∀ i (h : i < L.length) bb oo, q = some ⟨bb, oo, none⟩ → bb ≠ b7 := fun i h bb oo e => by
    rcases hown7.2 with ⟨hv, -⟩ | ⟨g, cap, cur, hv, hgb, -⟩
    · rw [e] at hv; cases hv
    · rw [e] at hv
      simp only [Value.slice.injEq, Option.some.injEq, Addr.mk.injEq, and_true] at hv
      have h1 := hb5.size
      have h2 := hv.1.1
      omega
  have hpE : Pairs ((w7.setCell ⟨b7, 0, none⟩ (.int .i64 0)).setCell ⟨b7, 1, none⟩ (.int .i64 (-1))) q L := fun i h => by
    obtain ⟨bb, oo, e, m0, m1⟩ := hpL i h
    have hne := hblk i h bb oo e
    exact ⟨bb, oo, e, store_kept m0 hne _ _, store_kept m1 hne _ _⟩
  have htyp : Typed ((w7.setCell ⟨b7, 0, none⟩ (.int .i64 0)).setCell ⟨b7, 1, none⟩ (.int .i64 (-1))) (.slice q L.length c) := fun ad m c' hv => by
    obtain ⟨cur, hcur⟩ := own_typed hown7 ad m c' hv
    have hne : ad.block ≠ b7 := by
      intro e
      rw [e, hr7] at hcur
      simp only [Option.some.injEq, Obj.cells.injEq] at hcur
      exact absurd hcur.2.1 (by decide)
    exact ⟨cur, by rw [Below.heap_setCell _ _ _ _ hne, Below.heap_setCell _ _ _ _ hne]; exact hcur⟩
  have hset : ∀ x, inPB L x = wantG a b k x := fun x => by
    by_cases hx : 0 ≤ x ∧ x < 4294967296
    · exact bool_of_iff (inPB_iff L x) Iff.rfl (hBu.has x hx.1 (by rw [pw_0]; simpa using hx.2))
    · have e1 : inPB L x = false := by
        rw [Bool.eq_false_iff]; intro h
        obtain ⟨p, hp, u1, u2⟩ := (inPB_iff L x).1 h
        have := hBu.within p hp
        rw [pw_0] at this
        simp only at this
        omega
      have e2 : inPB a x = false := by rw [Bool.eq_false_iff]; intro h; exact hx (right_in HI.out.2.2.1.rights ((inPB_iff a x).1 h))
      have e3 : inPB b x = false := by rw [Bool.eq_false_iff]; intro h; exact hx (right_in HI.out.2.2.2.1.rights ((inPB_iff b x).1 h))
      unfold wantG
      rw [e1, e2, e3, wantB_ff]
  obtain ⟨HE⟩ : Nonempty (Hid (NP L ∧ (∀ x, inPB L x = wantG a b k x) ∧ Pairs ((w7.setCell ⟨b7, 0, none⟩ (.int .i64 0)).setCell ⟨b7, 1, none⟩ (.int .i64 (-1))) q L ∧ Typed ((w7.setCell ⟨b7, 0, none⟩ (.int .i64 0)).setCell ⟨b7, 1, none⟩ (.int .i64 (-1))) (.slice q L.length c) ∧ Below w.heap.size w ((w7.setCell ⟨b7, 0, none⟩ (.int .i64 0)).setCell ⟨b7, 1, none⟩ (.int .i64 (-1))))) := ⟨⟨hBu.np, hset, hpE, htyp, hend⟩⟩
  clear hBu hset hpE htyp hend hblk hpL hown hown7 hb56 hb67 hb7w hb6 hw7 hr7 hb5
  go_wp2
  exact bodyPost_ret (v := .tuple #[.slice q L.length c, .agg #[.int .i64 0, .int .i64 (-1)]]) (by simp [results, Tryz.results7, go_sem, g0, g1]) rfl ⟨⟨L, q, c, rfl, HE.out.1, HE.out.2.1, HE.out.2.2.1, HE.out.2.2.2.1⟩, HE.out.2.2.2.2⟩

/-- the code and the place of a fault in memory. -/
theorem code_of (l : List (Int × Int)) (i : Nat) (v : Value) (e : Nat → Addr) (f0 f1 : Int) (hf : Hid (faultC l i = (f0, f1))) (w : World) (hE : ErrsLaid w e) (h : Faults w v l i (e 1) (e 2)) (hbad : ∀ h : i < l.length, rt l[i].1 l[i].2 = false) :
    Calls Tryz.prog 22 #[v] w fun ev w' => ev = .returned (.tuple #[.int .i64 f0, .int .i64 f1]) ∧ Below w.heap.size w w' := by
  obtain ⟨hi, b, rfl, hrow⟩ := h
  have hfc := hf.out
  unfold faultC at hfc
  rw [dif_pos hi] at hfc
  simp only [Prod.mk.injEq] at hfc
  obtain ⟨rfl, rfl⟩ := hfc
  obtain ⟨c0, c1, -, -, -⟩ := row_cells hrow
  have hbad := hbad hi
  unfold chk at c1
  unfold chkC
  by_cases hh : isA l[i].1 = true ∧ isL l[i].2 = true
  · have hm : ¬ l[i].1 % pw l[i].2 = 0 := fun hm => by
      have := (rt_iff _ _).2 ⟨(isA_iff _).1 hh.1, (isL_iff _).1 hh.2, hm⟩
      rw [hbad] at this
      simp at this
    rw [if_pos hh, if_neg hm] at c1
    rw [if_pos hh, if_neg hm]
    have := code_fault b (i : Int) (e 2) 2 e w hE (by omega) (hE.row 2 (by omega)) c0 c1 (fun j hj => hE.apart 2 j (by omega) (by omega) (by omega)) (fun _ => rfl)
    simpa using this
  · rw [if_neg hh] at c1
    rw [if_neg hh]
    have := code_fault b (i : Int) (e 1) 1 e w hE (by omega) (hE.row 1 (by omega)) c0 c1 (fun j hj => hE.apart 1 j (by omega) (by omega) (by omega)) (fun _ => rfl)
    simpa using this
set_option maxRecDepth 100000 in
set_option maxHeartbeats 2000000 in
theorem faulted_of (v : Value) (f0 f1 : Int) (w : World) (hC : ∀ w', Below w.heap.size w w' → Calls Tryz.prog 22 #[v] w' fun ev w'' => ev = .returned (.tuple #[.int .i64 f0, .int .i64 f1]) ∧ Below w'.heap.size w' w'') :
    Calls Tryz.prog 8 #[v, .agg #[.int .i64 f0, .int .i64 f1]] w fun e w' => e = .returned (.bool true) ∧ Below w.heap.size w w' := by
  have hba := below_alloc w (.cells #[.int .i64 f0, .int .i64 f1] 30)
  obtain ⟨c0, c1⟩ := box_at w (.int .i64 f0) (.int .i64 f1) 30
  obtain ⟨HN⟩ : Nonempty (Hid (Calls _ _ _ _ _)) := ⟨hC _ hba⟩
  clear hC
  go_enter Tryz.func8, Tryz.ntmps8
  go_wp2_with fail
  refine HN.out.mono ?_
  clear HN
  rintro e w1 ⟨rfl, hb1⟩
  have hb := hba.trans (hb1.mono hba.size)
  have d0 := cell_kept hb1 c0
  have d1 := cell_kept hb1 c1
  have e0 : (f0 == f0) = true := by simp
  have e1 : (f1 == f1) = true := by simp
  clear hb1 c0 c1
  cases hz : (f0 == 0)
  all_goals
    go_wp2
    go_ret
    exact ⟨rfl, hb⟩
end Go.Proofs.YthehpnhjfnenoaaGreatDoor
