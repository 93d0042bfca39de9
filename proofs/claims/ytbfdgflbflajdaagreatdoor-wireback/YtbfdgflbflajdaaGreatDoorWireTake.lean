/-
  Package wire's takeDrop: what it returns, and what the reading holds behind it.
-/
import Derived.Test.YtbfdgflbflajdaaGreatDoorGN
import Derived.Test.YtbfdgflbflajdaaGreatDoorGG
namespace Go.Proofs.YtbfdgflbflajdaaGreatDoor
open Go.RowKit

theorem rdP_le (s : ByteArray) : (rdP s).2.2 ≤ 3 := by
  unfold rdP
  split
  · simp
  · split
    · split
      · simp
      · exact chkC_le _ _
    · simp
/-- what a step of the reading does: its answer, and what it holds. -/
def Took (w w' : World) (R S : Nat) (o : Option Rg) (r : Ending) : Prop :=
  r = .returned (.bool o.isSome) ∧ Fr R S w w' ∧ ∀ g', o = some g' → RdAt w' R S g'

set_option linter.unusedVariables false in
set_option linter.unusedSimpArgs false in
set_option maxRecDepth 100000 in
set_option maxHeartbeats 4000000 in
theorem takeDrop_any (g : Rg) (s : List UInt8) (R S : Nat) (E : Nat → Addr) (m : Int) (w : World) (hE : WireEnv w E m) (h : RdAt w R S g) (hs : s.length ≤ 100000) (hl : g.drops.length ≤ 1000000) :
    Calls Tryz.prog 126 #[.pointer (some ⟨R, 0, none⟩), .string ⟨s.toArray⟩] w fun r w' => Took w w' R S (dropR g s) r := by
  obtain ⟨d, a, hR, hd, ha, hRS, hS⟩ := h
  have hss : (ByteArray.mk s.toArray).size < 4294967281 := by simp [ByteArray.size]; omega
  obtain ⟨HC⟩ : Nonempty (Hid (Calls _ _ _ _ _)) := ⟨read_any ⟨s.toArray⟩ (E 0) (E 1) (E 2) m w hE.ip hss⟩
  rw [errV_ev E _ (rdP_le _)] at HC
  obtain ⟨p0, hp0⟩ : ∃ x, Hid ((rdP ⟨s.toArray⟩).1 = x) := ⟨_, show _ = _ from rfl⟩
  obtain ⟨p1, hp1⟩ : ∃ x, Hid ((rdP ⟨s.toArray⟩).2.1 = x) := ⟨_, show _ = _ from rfl⟩
  obtain ⟨c, hc⟩ : ∃ x, Hid ((rdP ⟨s.toArray⟩).2.2 = x) := ⟨_, show _ = _ from rfl⟩
  rw [show (rdP ⟨s.toArray⟩).1 = p0 from hp0.out, show (rdP ⟨s.toArray⟩).2.1 = p1 from hp1.out, show (rdP ⟨s.toArray⟩).2.2 = c from hc.out] at HC
  have HD : Hid (dropR g s = if g.added = true ∨ c ≠ 0 then none else some { g with drops := g.drops ++ [(p0, p1)] }) := by
    show _ = _
    unfold dropR preR
    rw [hp0.out, hp1.out, hc.out]
  obtain ⟨i0, hi, hz0, hz1, hz2⟩ := pInfo_parts infoPre
  obtain ⟨HX⟩ : Nonempty (Hid (∀ w', Below w.heap.size w w' → w'.heap[R]? = some (.cells #[.string ⟨g.kind.toArray⟩, .int .i64 g.n, d, a, .bool g.added] 100 (0, 0)) ∧ w'.ownsRow S 65 2 d g.drops.length (flat2 g.drops) ∧ OwnRo w' S a g.adds (fun b => b < S ∨ d.ownBlock = some b) ∧ S ≤ w'.heap.size)) := ⟨fun w' hb => ⟨by rw [hb.block R (Array.getElem?_eq_some_iff.1 hR).1]; exact hR, own_below hd hb, ha.below hb, Nat.le_trans hS hb.size⟩⟩
  obtain ⟨HRS⟩ : Nonempty (Hid (R < S)) := ⟨hRS⟩
  obtain ⟨HFR⟩ : Nonempty (Hid (∀ w', Below w.heap.size w w' → Fr R S w w')) := ⟨fun w' hb => Fr.of_below hb hS⟩
  obtain ⟨ad, hA⟩ : ∃ x, Hid (g.added = x) := ⟨_, show _ = _ from rfl⟩
  rw [show g.added = ad from hA.out] at HX HD
  clear hE hR hd ha hS hp0 hp1 hc
  by_cases hbad : ad = true ∨ c ≠ 0
  · have HD2 : Hid (dropR g s = none) := by
      show _ = _
      rw [HD.out, if_pos hbad]
    rw [HD2.out]
    clear HD HD2
    cases ad with
    | true =>
      go_enter Tryz.func126, Tryz.ntmps126
      go_wp2_with fail
      refine HC.out.mono ?_
      rintro e w1 ⟨rfl, hb1⟩
      obtain ⟨HB1⟩ : Nonempty (Hid (Below w.heap.size w w1)) := ⟨hb1⟩
      obtain ⟨HB2⟩ : Nonempty (Hid (Below w.heap.size w (w1.alloc (.cells #[.int .i64 p0, .int .i64 p1] 65)))) := ⟨HB1.out.trans ((below_alloc _ _).mono HB1.out.size)⟩
      obtain ⟨-, -, -, -, x4, -⟩ := heap_cells5 (HX.out _ HB2.out).1
      clear hb1 hbad
      go_wp2_with fail
      go_ret
      exact ⟨rfl, HFR.out _ HB2.out, fun g' hg => by cases hg⟩
    | false =>
      obtain ⟨c, rfl⟩ : ∃ k, c = k + 1 := ⟨c - 1, by simp at hbad; omega⟩
      simp only [ev] at HC
      obtain ⟨u, hu⟩ : ∃ u, Hid (E c = u) := ⟨_, show _ = _ from rfl⟩
      rw [show E c = u from hu.out] at HC
      go_enter Tryz.func126, Tryz.ntmps126
      go_wp2_with fail
      refine HC.out.mono ?_
      rintro e w1 ⟨rfl, hb1⟩
      obtain ⟨HB1⟩ : Nonempty (Hid (Below w.heap.size w w1)) := ⟨hb1⟩
      obtain ⟨HB2⟩ : Nonempty (Hid (Below w.heap.size w (w1.alloc (.cells #[.int .i64 p0, .int .i64 p1] 65)))) := ⟨HB1.out.trans ((below_alloc _ _).mono HB1.out.size)⟩
      obtain ⟨-, -, -, -, x4, -⟩ := heap_cells5 (HX.out _ HB2.out).1
      clear hb1 hbad
      go_wp2_with fail
      go_ret
      exact ⟨rfl, HFR.out _ HB2.out, fun g' hg => by cases hg⟩
  · have HD2 : Hid (dropR g s = some { g with drops := g.drops ++ [(p0, p1)] }) := by
      show _ = _
      rw [HD.out, if_neg hbad, ← show g.added = ad from hA.out]
    rw [HD2.out]
    obtain ⟨rfl, rfl⟩ : ad = false ∧ c = 0 := by
      simp only [not_or, Bool.not_eq_true, ne_eq, Decidable.not_not] at hbad
      exact hbad
    simp only [ev] at HC
    clear HD HD2 hbad
    go_enter Tryz.func126, Tryz.ntmps126
    go_wp2_with fail
    refine HC.out.mono ?_
    rintro e w1 ⟨rfl, hb1⟩
    obtain ⟨HB1⟩ : Nonempty (Hid (Below w.heap.size w w1)) := ⟨hb1⟩
    obtain ⟨HB2⟩ : Nonempty (Hid (Below w.heap.size w (w1.alloc (.cells #[.int .i64 p0, .int .i64 p1] 65)))) := ⟨HB1.out.trans ((below_alloc _ _).mono HB1.out.size)⟩
    obtain ⟨-, -, -, -, x4, -⟩ := heap_cells5 (HX.out _ HB2.out).1
    clear hb1
    -- region 4
    obtain ⟨O', HO'⟩ : ∃ O', Hid (g.drops ++ [(p0, p1)] = O') := ⟨_, show _ = _ from rfl⟩
    obtain ⟨N9, hN9⟩ : ∃ b, Hid (w1.heap.size = b) := ⟨_, show _ = _ from rfl⟩
    obtain ⟨W9, hW9⟩ : ∃ b, Hid (w1.alloc (.cells #[.int .i64 p0, .int .i64 p1] 65) = b) := ⟨_, show _ = _ from rfl⟩
    obtain ⟨HLT⟩ : Nonempty (Hid (N9 < W9.drew.heap.size)) := ⟨by show _ < _; rw [← hW9.out, ← hN9.out]; simp⟩
    obtain ⟨HKC⟩ : Nonempty (Hid (∀ w', Below W9.heap.size W9 w' → (fun w' => w'.cell? ⟨N9, 0, none⟩ = some (.int .i64 p0) ∧ w'.cell? ⟨N9, 1, none⟩ = some (.int .i64 p1)) w')) := ⟨fun w' hb => ⟨cell_kept hb (by rw [← hW9.out, ← hN9.out]; simp), cell_kept hb (by rw [← hW9.out, ← hN9.out]; simp)⟩⟩
    obtain ⟨HNR⟩ : Nonempty (Hid (N9 ≠ R)) := ⟨by show _ ≠ _; rw [← hN9.out]; have := (Array.getElem?_eq_some_iff.1 (HX.out _ (Below.refl _ _)).1).1; have := HB1.out.size; omega⟩
    obtain ⟨HNE⟩ : Nonempty (Hid (d.ownBlock ≠ some R ∧ d.ownBlock ≠ some N9)) := ⟨⟨fun e => by have := ((HX.out _ (Below.refl _ _)).2.1.lt R e).1; have := HRS.out; omega, fun e => by have := ((HX.out _ (Below.refl _ _)).2.1.lt N9 e).2; have := HB1.out.size; rw [show w1.heap.size = N9 from hN9.out] at this; omega⟩⟩
    rw [show w1.alloc (.cells #[.int .i64 p0, .int .i64 p1] 65) = W9 from hW9.out] at HB2
    go_upto_region 4 with fail
    rw [show w1.alloc (.cells #[.int .i64 p0, .int .i64 p1] 65) = W9 from hW9.out, show w1.heap.size = N9 from hN9.out]
    clear x4
    have h9 := HX.out W9.drew (HB2.out.drew)
    obtain ⟨-, -, z2, -, -, -⟩ := heap_cells5 h9.1
    refine wp_region_held_drew (S := (fun w' => w'.cell? ⟨N9, 0, none⟩ = some (.int .i64 p0) ∧ w'.cell? ⟨N9, 1, none⟩ = some (.int .i64 p1))) (by kernel_rfl) ?_ (fun hHeld => ?_)
    · exact HKC.out _ (Below.drew (Below.refl _ _))
    refine wpAnyH_take (i := 0) (v := ?_) rfl (by kernel_rfl) (by kernel_rfl) (by kernel_rfl) (fun _ _ _ h => h) (Or.inl ⟨by rfl, ?_⟩) (by assumption) ?_
    rotate_left
    · (intro w hSw; (try dsimp only at hSw); go_simp; try (with_reducible rfl))
    try simp only [Act.put, List.setIfInBounds_toArray, List.set_cons_zero, List.set_cons_succ, List.getElem_toArray, List.getElem_cons_zero, List.getElem_cons_succ]
    refine wpAnyH_take (i := 1) (v := ?_) rfl (by kernel_rfl) (by kernel_rfl) (by kernel_rfl) (fun _ _ _ h => h) (Or.inl ⟨by rfl, ?_⟩) (by assumption) ?_
    rotate_left
    · (intro w hSw; (try dsimp only at hSw); go_simp; try (with_reducible rfl))
    try simp only [Act.put, List.setIfInBounds_toArray, List.set_cons_zero, List.set_cons_succ, List.getElem_toArray, List.getElem_cons_zero, List.getElem_cons_succ]
    refine wpAnyH_take (i := 2) (v := ?_) rfl (by kernel_rfl) (by kernel_rfl) (by kernel_rfl) (fun _ _ _ h => h) (Or.inl ⟨by rfl, ?_⟩) (by assumption) ?_
    rotate_left
    · (intro w hSw; (try dsimp only at hSw); go_simp; try (with_reducible rfl))
    try simp only [Act.put, List.setIfInBounds_toArray, List.set_cons_zero, List.set_cons_succ, List.getElem_toArray, List.getElem_cons_zero, List.getElem_cons_succ]
    refine wpAnyH_take (i := 3) (v := ?_) rfl (by kernel_rfl) (by kernel_rfl) (by kernel_rfl) (fun _ _ _ h => h) (Or.inl ⟨by rfl, ?_⟩) (by assumption) ?_
    rotate_left
    · (intro w hSw; (try dsimp only at hSw); go_simp; try (with_reducible rfl))
    try simp only [Act.put, List.setIfInBounds_toArray, List.set_cons_zero, List.set_cons_succ, List.getElem_toArray, List.getElem_cons_zero, List.getElem_cons_succ]
    refine wpAnyH_take (i := 4) (v := ?_) rfl (by kernel_rfl) (by kernel_rfl) (by kernel_rfl) (fun _ _ _ h => h) (Or.inl ⟨by rfl, ?_⟩) (by assumption) ?_
    rotate_left
    · (intro w hSw; (try dsimp only at hSw); go_simp; try (with_reducible rfl))
    try simp only [Act.put, List.setIfInBounds_toArray, List.set_cons_zero, List.set_cons_succ, List.getElem_toArray, List.getElem_cons_zero, List.getElem_cons_succ]
    refine wpAnyH_take (i := 6) (v := ?_) rfl (by kernel_rfl) (by kernel_rfl) (by kernel_rfl) (fun _ _ _ h => h) (Or.inl ⟨by rfl, ?_⟩) (by assumption) ?_
    rotate_left
    · (intro w hSw; (try dsimp only at hSw); go_simp; try (with_reducible rfl))
    try simp only [Act.put, List.setIfInBounds_toArray, List.set_cons_zero, List.set_cons_succ, List.getElem_toArray, List.getElem_cons_zero, List.getElem_cons_succ]
    refine wpAnyH_ready (rs := [5, 7]) (by kernel_rfl) (by simp) ?_
    refine AllReadyH.cons rfl (fun K hK => ?_) (AllReadyH.cons rfl (fun K hK => ?_) AllReadyH.nil)
    · skip
      go_simp
      refine hK.out _ _ ?_ (fun hHeld => ?_)
      · exact HKC.out _ (Below.drew (Below.refl _ _))
      clear hK K
      try simp only [Act.put, List.setIfInBounds_toArray, List.set_cons_zero, List.set_cons_succ, List.getElem_toArray, List.getElem_cons_zero, List.getElem_cons_succ]
      refine wpAnyH_ready (rs := [7]) (by kernel_rfl) (by simp) ?_
      refine AllReadyH.cons rfl (fun K hK => ?_) AllReadyH.nil
      go_simp
      refine hK.out _ _ ?_ (fun hHeld => ?_)
      · exact HKC.out _ (below_alloc W9 _).drew
      clear hK K
      try simp only [Act.put, List.setIfInBounds_toArray, List.set_cons_zero, List.set_cons_succ, List.getElem_toArray, List.getElem_cons_zero, List.getElem_cons_succ]
      refine wpAnyH_ready (rs := [8]) (by kernel_rfl) (by simp) ?_
      refine AllReadyH.cons rfl (fun K hK => ?_) AllReadyH.nil
      rw [if_pos (by rfl)]
      refine op_pushP (.tmp 25) (.tmp 27) 52 rfl S 65 i0 Tryz.underlying52 hi hz0 hz1 hz2 d g.drops rfl h9.2.1 p0 p1 _ rfl rfl O' HO' (by omega) h9.2.2.2 ?_
      intro v' w6 hown6 hgr6
      obtain ⟨q6, c6, rfl, -, -, -⟩ := own_pairs hown6
      obtain ⟨HF⟩ : Nonempty (Hid (RdAt (w6.setCell ⟨R, 2, none⟩ (.slice q6 O'.length c6)) R S { g with drops := O' } ∧ Fr R S W9.drew (w6.setCell ⟨R, 2, none⟩ (.slice q6 O'.length c6)))) := ⟨rdAt_drops (by rw [show g.added = false from hA.out]; exact h9.1) h9.2.1 h9.2.2.1 HRS.out h9.2.2.2 hgr6 O' hown6⟩
      have e6 := hgr6.block R (by have := HLT.out; have := h9.2.2.2; have := HRS.out; omega) (fun e => HNE.out.1 e.symm)
      rw [h9.1] at e6
      obtain ⟨-, -, y2, -, -, yf⟩ := heap_cells5 e6
      have yf2 := yf 2
      have e9 := hgr6.block N9 HLT.out (fun e => HNE.out.2 e.symm)
      obtain ⟨HK6⟩ : Nonempty (Hid ((fun w' => w'.cell? ⟨N9, 0, none⟩ = some (.int .i64 p0) ∧ w'.cell? ⟨N9, 1, none⟩ = some (.int .i64 p1)) w6 ∧ (fun w' => w'.cell? ⟨N9, 0, none⟩ = some (.int .i64 p0) ∧ w'.cell? ⟨N9, 1, none⟩ = some (.int .i64 p1)) (w6.setCell ⟨R, 2, none⟩ (.slice q6 O'.length c6)))) := ⟨by
        have k6 : (fun w' => w'.cell? ⟨N9, 0, none⟩ = some (.int .i64 p0) ∧ w'.cell? ⟨N9, 1, none⟩ = some (.int .i64 p1)) w6 := by
          have k0 := HKC.out _ (Below.drew (Below.refl _ _))
          refine ⟨?_, ?_⟩
          · rw [World.cell?_of_block (w := W9.drew) e9]; exact k0.1
          · rw [World.cell?_of_block (w := W9.drew) e9]; exact k0.2
        refine ⟨k6, ?_, ?_⟩
        · rw [World.cell?_of_block (w := w6) (Below.heap_setCell _ _ _ _ (by simpa using HNR.out))]; exact k6.1
        · rw [World.cell?_of_block (w := w6) (Below.heap_setCell _ _ _ _ (by simpa using HNR.out))]; exact k6.2⟩
      clear hHeld e6 e9 yf hown6 hgr6 h9
      refine hK.out _ _ ?_ (fun hHeld => ?_)
      · exact HK6.out.1
      clear hK K
      try simp only [Act.put, List.setIfInBounds_toArray, List.set_cons_zero, List.set_cons_succ, List.getElem_toArray, List.getElem_cons_zero, List.getElem_cons_succ]
      refine wpAnyH_take (i := 9) (v := ?_) rfl (by kernel_rfl) (by kernel_rfl) (by kernel_rfl) (fun _ _ _ h => h) (Or.inl ⟨by rfl, ?_⟩) (by assumption) ?_
      rotate_left
      · (intro w hSw; (try dsimp only at hSw); go_simp; try (with_reducible rfl))
      try simp only [Act.put, List.setIfInBounds_toArray, List.set_cons_zero, List.set_cons_succ, List.getElem_toArray, List.getElem_cons_zero, List.getElem_cons_succ]
      refine wpAnyH_take (i := 10) (v := ?_) rfl (by kernel_rfl) (by kernel_rfl) (by kernel_rfl) (fun _ _ _ h => h) (Or.inl ⟨by rfl, ?_⟩) (by assumption) ?_
      rotate_left
      · (intro w hSw; (try dsimp only at hSw); go_simp; try (with_reducible rfl))
      try simp only [Act.put, List.setIfInBounds_toArray, List.set_cons_zero, List.set_cons_succ, List.getElem_toArray, List.getElem_cons_zero, List.getElem_cons_succ]
      refine wpAnyH_take (i := 11) (v := ?_) rfl (by kernel_rfl) (by kernel_rfl) (by kernel_rfl) (fun _ _ _ h => h) (Or.inl ⟨by rfl, ?_⟩) (by assumption) ?_
      rotate_left
      · (intro w hSw; (try dsimp only at hSw); go_simp; try (with_reducible rfl))
      try simp only [Act.put, List.setIfInBounds_toArray, List.set_cons_zero, List.set_cons_succ, List.getElem_toArray, List.getElem_cons_zero, List.getElem_cons_succ]
      refine wpAnyH_ready (rs := [12]) (by kernel_rfl) (by simp) ?_
      refine AllReadyH.cons rfl (fun K hK => ?_) AllReadyH.nil
      go_simp
      refine hK.out _ _ ?_ (fun hHeld => ?_)
      · exact HK6.out.2
      clear hK K
      try simp only [Act.put, List.setIfInBounds_toArray, List.set_cons_zero, List.set_cons_succ, List.getElem_toArray, List.getElem_cons_zero, List.getElem_cons_succ]
      refine wpAnyH_done (by kernel_rfl) ?_ _
      clear hHeld
      go_wp2_with fail
      go_ret
      exact ⟨rfl, (HFR.out _ HB2.out.drew).trans HF.out.2, fun g' hg => by
        simp only [Option.some.injEq] at hg
        subst hg
        rw [show g.drops ++ [(p0, p1)] = O' from HO'.out]
        exact HF.out.1⟩
    · skip
      go_simp
      refine hK.out _ _ ?_ (fun hHeld => ?_)
      · exact HKC.out _ (below_alloc W9 _).drew
      clear hK K
      try simp only [Act.put, List.setIfInBounds_toArray, List.set_cons_zero, List.set_cons_succ, List.getElem_toArray, List.getElem_cons_zero, List.getElem_cons_succ]
      have z2' : (W9.alloc (.cells #[.int .i64 p0, .int .i64 p1] 65)).drew.cell? ⟨R, 2, none⟩ = some d := by
        show (W9.drew.alloc _).cell? _ = _
        exact cell_kept (below_alloc _ _) z2
      refine wpAnyH_ready (rs := [5]) (by kernel_rfl) (by simp) ?_
      refine AllReadyH.cons rfl (fun K hK => ?_) AllReadyH.nil
      go_simp
      refine hK.out _ _ ?_ (fun hHeld => ?_)
      · exact HKC.out _ (below_alloc W9 _).drew
      clear hK K
      try simp only [Act.put, List.setIfInBounds_toArray, List.set_cons_zero, List.set_cons_succ, List.getElem_toArray, List.getElem_cons_zero, List.getElem_cons_succ]
      refine wpAnyH_ready (rs := [8]) (by kernel_rfl) (by simp) ?_
      refine AllReadyH.cons rfl (fun K hK => ?_) AllReadyH.nil
      rw [if_pos (by rfl)]
      refine op_pushP (.tmp 25) (.tmp 27) 52 rfl S 65 i0 Tryz.underlying52 hi hz0 hz1 hz2 d g.drops rfl h9.2.1 p0 p1 _ rfl rfl O' HO' (by omega) h9.2.2.2 ?_
      intro v' w6 hown6 hgr6
      obtain ⟨q6, c6, rfl, -, -, -⟩ := own_pairs hown6
      obtain ⟨HF⟩ : Nonempty (Hid (RdAt (w6.setCell ⟨R, 2, none⟩ (.slice q6 O'.length c6)) R S { g with drops := O' } ∧ Fr R S W9.drew (w6.setCell ⟨R, 2, none⟩ (.slice q6 O'.length c6)))) := ⟨rdAt_drops (by rw [show g.added = false from hA.out]; exact h9.1) h9.2.1 h9.2.2.1 HRS.out h9.2.2.2 hgr6 O' hown6⟩
      have e6 := hgr6.block R (by have := HLT.out; have := h9.2.2.2; have := HRS.out; omega) (fun e => HNE.out.1 e.symm)
      rw [h9.1] at e6
      obtain ⟨-, -, y2, -, -, yf⟩ := heap_cells5 e6
      have yf2 := yf 2
      have e9 := hgr6.block N9 HLT.out (fun e => HNE.out.2 e.symm)
      obtain ⟨HK6⟩ : Nonempty (Hid ((fun w' => w'.cell? ⟨N9, 0, none⟩ = some (.int .i64 p0) ∧ w'.cell? ⟨N9, 1, none⟩ = some (.int .i64 p1)) w6 ∧ (fun w' => w'.cell? ⟨N9, 0, none⟩ = some (.int .i64 p0) ∧ w'.cell? ⟨N9, 1, none⟩ = some (.int .i64 p1)) (w6.setCell ⟨R, 2, none⟩ (.slice q6 O'.length c6)))) := ⟨by
        have k6 : (fun w' => w'.cell? ⟨N9, 0, none⟩ = some (.int .i64 p0) ∧ w'.cell? ⟨N9, 1, none⟩ = some (.int .i64 p1)) w6 := by
          have k0 := HKC.out _ (Below.drew (Below.refl _ _))
          refine ⟨?_, ?_⟩
          · rw [World.cell?_of_block (w := W9.drew) e9]; exact k0.1
          · rw [World.cell?_of_block (w := W9.drew) e9]; exact k0.2
        refine ⟨k6, ?_, ?_⟩
        · rw [World.cell?_of_block (w := w6) (Below.heap_setCell _ _ _ _ (by simpa using HNR.out))]; exact k6.1
        · rw [World.cell?_of_block (w := w6) (Below.heap_setCell _ _ _ _ (by simpa using HNR.out))]; exact k6.2⟩
      clear hHeld e6 e9 yf hown6 hgr6 h9
      refine hK.out _ _ ?_ (fun hHeld => ?_)
      · exact HK6.out.1
      clear hK K
      try simp only [Act.put, List.setIfInBounds_toArray, List.set_cons_zero, List.set_cons_succ, List.getElem_toArray, List.getElem_cons_zero, List.getElem_cons_succ]
      refine wpAnyH_take (i := 9) (v := ?_) rfl (by kernel_rfl) (by kernel_rfl) (by kernel_rfl) (fun _ _ _ h => h) (Or.inl ⟨by rfl, ?_⟩) (by assumption) ?_
      rotate_left
      · (intro w hSw; (try dsimp only at hSw); go_simp; try (with_reducible rfl))
      try simp only [Act.put, List.setIfInBounds_toArray, List.set_cons_zero, List.set_cons_succ, List.getElem_toArray, List.getElem_cons_zero, List.getElem_cons_succ]
      refine wpAnyH_take (i := 10) (v := ?_) rfl (by kernel_rfl) (by kernel_rfl) (by kernel_rfl) (fun _ _ _ h => h) (Or.inl ⟨by rfl, ?_⟩) (by assumption) ?_
      rotate_left
      · (intro w hSw; (try dsimp only at hSw); go_simp; try (with_reducible rfl))
      try simp only [Act.put, List.setIfInBounds_toArray, List.set_cons_zero, List.set_cons_succ, List.getElem_toArray, List.getElem_cons_zero, List.getElem_cons_succ]
      refine wpAnyH_take (i := 11) (v := ?_) rfl (by kernel_rfl) (by kernel_rfl) (by kernel_rfl) (fun _ _ _ h => h) (Or.inl ⟨by rfl, ?_⟩) (by assumption) ?_
      rotate_left
      · (intro w hSw; (try dsimp only at hSw); go_simp; try (with_reducible rfl))
      try simp only [Act.put, List.setIfInBounds_toArray, List.set_cons_zero, List.set_cons_succ, List.getElem_toArray, List.getElem_cons_zero, List.getElem_cons_succ]
      refine wpAnyH_ready (rs := [12]) (by kernel_rfl) (by simp) ?_
      refine AllReadyH.cons rfl (fun K hK => ?_) AllReadyH.nil
      go_simp
      refine hK.out _ _ ?_ (fun hHeld => ?_)
      · exact HK6.out.2
      clear hK K
      try simp only [Act.put, List.setIfInBounds_toArray, List.set_cons_zero, List.set_cons_succ, List.getElem_toArray, List.getElem_cons_zero, List.getElem_cons_succ]
      refine wpAnyH_done (by kernel_rfl) ?_ _
      clear hHeld
      go_wp2_with fail
      go_ret
      exact ⟨rfl, (HFR.out _ HB2.out.drew).trans HF.out.2, fun g' hg => by
        simp only [Option.some.injEq] at hg
        subst hg
        rw [show g.drops ++ [(p0, p1)] = O' from HO'.out]
        exact HF.out.1⟩
end Go.Proofs.YtbfdgflbflajdaaGreatDoor
