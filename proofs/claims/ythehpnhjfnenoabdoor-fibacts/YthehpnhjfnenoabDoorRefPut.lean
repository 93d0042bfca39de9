/-
  The document's Put.
-/
import Derived.Test.YthehpnhjfnenoabDoorRefDrop
namespace Go.Proofs.YthehpnhjfnenoabDoor
open Go.RowKit

theorem flat3_hop (L : List Ent) : ∀ (k : Nat) (h : k < L.length) (hop : Int), (flat3 L).set (k * 3 + 2) (.int .i64 hop) = flat3 (L.set k (L[k].1, hop)) := by
  induction L with
  | nil => intro k h; simp at h
  | cons x L ih =>
    intro k h hop
    cases k with
    | zero => rfl
    | succ k =>
      have := ih k (by simpa using h) hop
      rw [flat3_cons, show (k + 1) * 3 + 2 = (k * 3 + 2) + 1 + 1 + 1 by omega]
      simp only [List.set_cons_succ, List.getElem_cons_succ]
      rw [flat3_cons, this]
/-- a hop anew. -/
theorem rtab_hop {w wr : World} {rb g k cap : Nat} {L : List Ent} {mo hop : Int} {G : List Nat} (h : RTab w rb L mo G) (hv : w.heap[rb]? = some (rtabObj mo (.slice (some ⟨g, 0, none⟩) L.length cap))) (hb : Below w.heap.size w wr) (hk : k < L.length) :
    (∀ j, wr.frozen? ⟨g, j, none⟩ = false) ∧ (∃ G', RTab (wr.setCell ⟨g, k * 3 + 2, none⟩ (.int .i64 hop)) rb (L.set k (L[k].1, hop)) mo G' ∧ (∀ b ∈ G', b ∈ G ∨ w.heap.size ≤ b) ∧ Kept G w (wr.setCell ⟨g, k * 3 + 2, none⟩ (.int .i64 hop))) := by
  have hG := h
  obtain ⟨v, h1, h2, h3, h4⟩ := h.below hb
  have hv' : wr.heap[rb]? = some (rtabObj mo (.slice (some ⟨g, 0, none⟩) L.length cap)) := by rw [hb.block rb (Array.getElem?_eq_some_iff.1 hv).1]; exact hv
  obtain rfl : v = .slice (some ⟨g, 0, none⟩) L.length cap := by
    rw [hv'] at h1
    simp only [rtabObj, Option.some.injEq, Obj.cells.injEq, and_true] at h1
    have := congrArg (fun a : Array Value => a[1]?) h1
    simpa using this.symm
  have hgG : g ∈ G := by rw [← h4]; simp [Value.ownBlock]
  have hne : rb ≠ g := fun e => h3 (by simp [Value.ownBlock, e])
  refine ⟨fun j => h2.frozenAt j, G, ⟨_, ?_, ?_, h3, h4⟩, fun b hm => .inl hm, (Kept.of_below hb).setCell (.inl hgG) _⟩
  · rw [heap_far _ _ _ _ _ hne]; exact hv'
  · have := (h2.stored (k * 3 + 2) (.int .i64 hop)).1
    rw [flat3_hop L k hk] at this
    simpa using this
def PUTG (L : List Ent) (pa pn : Int) (k : Nat) : Prop := k ≤ L.length ∧ ∀ i (_ : i < k) (h : i < L.length), lt2 L[i].1 (pa, pn) = true

set_option linter.unusedVariables false in
set_option linter.unusedSimpArgs false in
set_option maxRecDepth 100000 in
set_option maxHeartbeats 2000000 in
theorem rPut_row (rb : Nat) (L : List Ent) (g cap : Nat) (mo pa pn hop : Int) (G : List Nat) (w : World) (h : RTab w rb L mo G) (hv : w.heap[rb]? = some (rtabObj mo (.slice (some ⟨g, 0, none⟩) L.length cap))) (hs : Srt L) (hl : L.length ≤ 1000000) (hcap : L.length ≤ cap) (hcap2 : cap ≤ maxLen) (hq : Ents w (some ⟨g, 0, none⟩) L) (hrG : rb ∈ G) :
    Calls Tryd.prog 28 #[.pointer (some ⟨rb, 0, none⟩), .agg #[.int .i64 pa, .int .i64 pn], .int .i64 hop] w (RPost mo G rb (putC L mo pa pn) (putS L mo pa pn hop) w) := by
  obtain ⟨i0, hi, hz0, hz1, hz2⟩ := info_parts3 infoREnt
  obtain ⟨HT⟩ : Nonempty (Hid (RTab w rb L mo G ∧ Srt L ∧ w.heap[rb]? = some (rtabObj mo (.slice (some ⟨g, 0, none⟩) L.length cap)) ∧ Ents w (some ⟨g, 0, none⟩) L)) := ⟨⟨h, hs, hv, hq⟩⟩
  have hba := below_alloc w (.cells #[.int .i64 pa, .int .i64 pn] 36)
  obtain ⟨a0, a1⟩ := box_at w (.int .i64 pa) (.int .i64 pn) 36
  have hrb := (Array.getElem?_eq_some_iff.1 hv).1
  clear h hs hv hq
  obtain ⟨sz, hsz⟩ : ∃ b, Hid (w.heap.size = b) := ⟨_, show _ = _ from rfl⟩
  obtain ⟨W, hW⟩ : ∃ X, Hid (w.alloc (.cells #[.int .i64 pa, .int .i64 pn] 36) = X) := ⟨_, show _ = _ from rfl⟩
  rw [show w.alloc (.cells #[.int .i64 pa, .int .i64 pn] 36) = W from hW.out] at hba a0 a1
  rw [show w.heap.size = sz from hsz.out] at a0 a1
  obtain ⟨c, hc⟩ : ∃ c : Int, Hid ((chkC pa pn : Int) = c) := ⟨_, show _ = _ from rfl⟩
  obtain ⟨HC⟩ : Nonempty (Hid (Calls _ _ _ _ _)) := ⟨rPrefixError_at pa pn c hc W⟩
  obtain ⟨res, Hres⟩ : ∃ v : Int, Hid ((putC L mo pa pn : Int) = v) := ⟨_, show _ = _ from rfl⟩
  obtain ⟨L', HL'⟩ : ∃ v, Hid (putS L mo pa pn hop = v) := ⟨_, show _ = _ from rfl⟩
  rw [show (putC L mo pa pn : Int) = res from Hres.out, show putS L mo pa pn hop = L' from HL'.out]
  go_enter Tryd.func28, Tryd.ntmps28
  go_upto_region 1 with fail
  rw [show w.alloc (.cells #[.int .i64 pa, .int .i64 pn] 36) = W from hW.out, show w.heap.size = sz from hsz.out]
  cases hr : rt pa pn with
  | false =>
    as_aux_lemma =>
    have e1 : putC L mo pa pn = chkC pa pn := by unfold putC; rw [hr, if_neg (by simp)]
    have e2 : L = L' := by rw [← HL'.out]; unfold putS; rw [e1, if_neg (chkC_ne hr)]
    subst e2
    obtain rfl : c = res := by rw [← Hres.out, e1]; exact hc.out.symm
    have hcp : 0 < c := by have := chkC_ne hr; have := hc.out; omega
    clear e1
    go_wp2_with fail
    refine HC.out.mono ?_
    clear HC
    rintro e w1 ⟨rfl, hb1⟩
    have hb2 := hba.trans (hb1.mono hba.size)
    clear hb1
    go_wp2_with fail
    go_ret
    exact rpost_same HT.out.1 hb2
  | true =>
    as_aux_lemma =>
    obtain rfl : c = 0 := by rw [← hc.out, chkC_rt pa pn hr]; rfl
    go_wp2_with fail
    refine HC.out.mono ?_
    clear HC
    rintro e w1 ⟨rfl, hb1⟩
    have hb2 := hba.trans (hb1.mono hba.size)
    have b0 := cell_kept hb1 a0
    have b1 := cell_kept hb1 a1
    obtain ⟨HI⟩ : Nonempty (Hid (Below w.heap.size w w1 ∧ w1.cell? ⟨sz, 0, none⟩ = some (.int .i64 pa) ∧ w1.cell? ⟨sz, 1, none⟩ = some (.int .i64 pn))) := ⟨⟨hb2, b0, b1⟩⟩
    obtain ⟨HA⟩ : Nonempty (Hid (∀ wr, Below w1.heap.size w1 wr → Below w.heap.size w wr ∧ wr.heap[rb]? = some (rtabObj mo (.slice (some ⟨g, 0, none⟩) L.length cap)) ∧ wr.cell? ⟨sz, 0, none⟩ = some (.int .i64 pa) ∧ wr.cell? ⟨sz, 1, none⟩ = some (.int .i64 pn) ∧ wr.cell? ⟨rb, 1, none⟩ = some (.slice (some ⟨g, 0, none⟩) L.length cap) ∧ wr.cell? ⟨rb, 0, none⟩ = some (.int .i64 mo) ∧ Ents wr (some ⟨g, 0, none⟩) L)) := ⟨fun wr hbr => by
      have hbw := hb2.trans (hbr.mono hb2.size)
      have ho : wr.heap[rb]? = some (rtabObj mo (.slice (some ⟨g, 0, none⟩) L.length cap)) := by rw [hbw.block rb hrb]; exact HT.out.2.2.1
      exact ⟨hbw, ho, cell_kept hbr b0, cell_kept hbr b1, (rtab_cells ho).2.1, (rtab_cells ho).1, HT.out.2.2.2.below hbw⟩⟩
    clear hb1 hb2 a0 a1 b0 b1 hba
    go_wp2_with fail
    go_loopw [8, 9] (fun i _ wr => ∃ (j : Nat), i = .int .i64 j ∧ Hid (PUTG L pa pn j ∧ Below w1.heap.size w1 wr) ∧ j ≤ L.length) (fun i _ _ => L.length - (intOf i).toNat)
    case atStart => exact ⟨0, rfl, ⟨⟨Nat.zero_le _, fun i h => by omega⟩, Below.refl _ _⟩, Nat.zero_le _⟩
    case round =>
      obtain ⟨j, rfl, HK, hjl⟩ := hrel
      obtain ⟨hbw, ho, b0, b1, t1, t0, hqe⟩ := HA.out _ HK.out.2
      obtain ⟨HQ⟩ : Nonempty (Hid (Below w.heap.size w wr ∧ Ents wr (some ⟨g, 0, none⟩) L)) := ⟨⟨hbw, hqe⟩⟩
      clear hbw ho hqe
      by_cases hlt : j < L.length
      · as_aux_lemma =>
        have q3 : (j : Int) < L.length := by omega
        obtain ⟨b', o', he, d0, d1, d2⟩ := HQ.out.2 j hlt
        simp only [Option.some.injEq, Addr.mk.injEq, and_true] at he
        obtain ⟨rfl, rfl⟩ := he
        rw [Nat.zero_add] at d0 d1 d2
        obtain ⟨⟨⟨x0, x1⟩, x2⟩, hx⟩ : ∃ x, Hid (L[j] = x) := ⟨_, show _ = _ from rfl⟩
        rw [hx.out] at d0 d1 d2
        simp only at d0 d1 d2
        obtain ⟨ah, hah⟩ : ∃ x, Hid ((decide (x0 < pa) || (x0 == pa && decide (x1 < pn))) = x) := ⟨_, show _ = _ from rfl⟩
        obtain ⟨HLT⟩ : Nonempty (Hid (lt2 L[j].1 (pa, pn) = ah)) := ⟨by rw [hx.out, Hid, ← hah.out, Bool.eq_iff_iff, lt2_iff]; simp⟩
        obtain ⟨HC⟩ : Nonempty (Hid (Calls _ _ _ _ _)) := ⟨rIsAhead_any x0 x1 pa pn wr.drew⟩
        rw [show (decide (x0 < pa) || (x0 == pa && decide (x1 < pn))) = ah from hah.out] at HC
        obtain ⟨HS⟩ : Nonempty (Hid (∀ w', Below wr.heap.size wr w' → w'.cell? ⟨rb, 1, none⟩ = some (.slice (some ⟨g, 0, none⟩) L.length cap) ∧ w'.cell? ⟨g, j * 3, none⟩ = some (.int .i64 x0) ∧ w'.cell? ⟨g, j * 3 + 1, none⟩ = some (.int .i64 x1) ∧ w'.cell? ⟨sz, 0, none⟩ = some (.int .i64 pa) ∧ w'.cell? ⟨sz, 1, none⟩ = some (.int .i64 pn))) := ⟨fun w' hb => ⟨cell_kept hb t1, cell_kept hb d0, cell_kept hb d1, cell_kept hb b0, cell_kept hb b1⟩⟩
        go_wp2_with fail
        refine wp_region_noPanic ?_
        refine wp_region_held_drew (S := (fun w' => w'.cell? ⟨rb, 1, none⟩ = some (.slice (some ⟨g, 0, none⟩) L.length cap) ∧ w'.cell? ⟨g, j * 3, none⟩ = some (.int .i64 x0) ∧ w'.cell? ⟨g, j * 3 + 1, none⟩ = some (.int .i64 x1) ∧ w'.cell? ⟨sz, 0, none⟩ = some (.int .i64 pa) ∧ w'.cell? ⟨sz, 1, none⟩ = some (.int .i64 pn))) (by kernel_rfl) ?_ (fun hHeld => ?_)
        · exact HS.out _ (Below.refl _ _).drew
        refine wpAnyH_take (i := 0) (v := ?_) rfl (by kernel_rfl) (by kernel_rfl) (by kernel_rfl) (fun _ _ _ h => h) (Or.inl ⟨by rfl, ?_⟩) (by assumption) ?_
        rotate_left
        · (intro w hSw; (try dsimp only at hSw); go_simp; try (with_reducible rfl))
        try simp only [Act.put, List.setIfInBounds_toArray, List.set_cons_zero, List.set_cons_succ, List.getElem_toArray, List.getElem_cons_zero, List.getElem_cons_succ]
        refine wpAnyH_take (i := 1) (v := ?_) rfl (by kernel_rfl) (by kernel_rfl) (by kernel_rfl) (fun _ _ _ h => h) (Or.inl ⟨by rfl, ?_⟩) (by assumption) ?_
        rotate_left
        · (intro w hSw; (try dsimp only at hSw); go_simp; try (with_reducible rfl))
        try simp only [Act.put, List.setIfInBounds_toArray, List.set_cons_zero, List.set_cons_succ, List.getElem_toArray, List.getElem_cons_zero, List.getElem_cons_succ]
        refine wpAnyH_take (i := 2) (v := ?_) rfl (by kernel_rfl) (by kernel_rfl) (by kernel_rfl) (fun _ _ _ h => h) (Or.inl ⟨by rfl, ?_⟩) (by assumption) ?_
        rotate_left
        · (intro w hSw; (try dsimp only at hSw); go_simp; try (with_reducible rfl))
        try simp only [Act.put, List.setIfInBounds_toArray, List.set_cons_zero, List.set_cons_succ, List.getElem_toArray, List.getElem_cons_zero, List.getElem_cons_succ]
        refine wpAnyH_take (i := 3) (v := ?_) rfl (by kernel_rfl) (by kernel_rfl) (by kernel_rfl) (fun _ _ _ h => h) (Or.inl ⟨by rfl, ?_⟩) (by assumption) ?_
        rotate_left
        · (intro w hSw; (try dsimp only at hSw); go_simp; try (with_reducible rfl))
        try simp only [Act.put, List.setIfInBounds_toArray, List.set_cons_zero, List.set_cons_succ, List.getElem_toArray, List.getElem_cons_zero, List.getElem_cons_succ]
        refine wpAnyH_take (i := 4) (v := ?_) rfl (by kernel_rfl) (by kernel_rfl) (by kernel_rfl) (fun _ _ _ h => h) (Or.inl ⟨by rfl, ?_⟩) (by assumption) ?_
        rotate_left
        · (intro w hSw; (try dsimp only at hSw); go_simp; try (with_reducible rfl))
        try simp only [Act.put, List.setIfInBounds_toArray, List.set_cons_zero, List.set_cons_succ, List.getElem_toArray, List.getElem_cons_zero, List.getElem_cons_succ]
        refine wpAnyH_take (i := 5) (v := ?_) rfl (by kernel_rfl) (by kernel_rfl) (by kernel_rfl) (fun _ _ _ h => h) (Or.inl ⟨by rfl, ?_⟩) (by assumption) ?_
        rotate_left
        · (intro w hSw; (try dsimp only at hSw); go_simp; try (with_reducible rfl))
        try simp only [Act.put, List.setIfInBounds_toArray, List.set_cons_zero, List.set_cons_succ, List.getElem_toArray, List.getElem_cons_zero, List.getElem_cons_succ]
        refine wpAnyH_take (i := 6) (v := ?_) rfl (by kernel_rfl) (by kernel_rfl) (by kernel_rfl) (fun _ _ _ h => h) (Or.inl ⟨by rfl, ?_⟩) (by assumption) ?_
        rotate_left
        · (intro w hSw; (try dsimp only at hSw); go_simp; try (with_reducible rfl))
        try simp only [Act.put, List.setIfInBounds_toArray, List.set_cons_zero, List.set_cons_succ, List.getElem_toArray, List.getElem_cons_zero, List.getElem_cons_succ]
        refine wpAnyH_take (i := 7) (v := ?_) rfl (by kernel_rfl) (by kernel_rfl) (by kernel_rfl) (fun _ _ _ h => h) (Or.inl ⟨by rfl, ?_⟩) (by assumption) ?_
        rotate_left
        · (intro w hSw; (try dsimp only at hSw); go_simp; try (with_reducible rfl))
        try simp only [Act.put, List.setIfInBounds_toArray, List.set_cons_zero, List.set_cons_succ, List.getElem_toArray, List.getElem_cons_zero, List.getElem_cons_succ]
        refine wpAnyH_take (i := 8) (v := ?_) rfl (by kernel_rfl) (by kernel_rfl) (by kernel_rfl) (fun _ _ _ h => h) (Or.inl ⟨by rfl, ?_⟩) (by assumption) ?_
        rotate_left
        · (intro w hSw; (try dsimp only at hSw); go_simp; try (with_reducible rfl))
        try simp only [Act.put, List.setIfInBounds_toArray, List.set_cons_zero, List.set_cons_succ, List.getElem_toArray, List.getElem_cons_zero, List.getElem_cons_succ]
        refine wpAnyH_ready (rs := [9]) (by kernel_rfl) (by simp) ?_
        refine AllReadyH.cons rfl (fun K hK => ?_) AllReadyH.nil
        go_simp
        refine HC.out.mono ?_
        clear HC
        rintro e w2 ⟨rfl, hb2⟩
        obtain ⟨HB2⟩ : Nonempty (Hid (Below wr.heap.size wr w2)) := ⟨((Below.refl _ wr).drew).trans hb2⟩
        clear hb2
        refine hK.out _ _ ?_ (fun hHeld => ?_)
        · exact HS.out _ HB2.out
        clear hK K
        try simp only [Act.put, List.setIfInBounds_toArray, List.set_cons_zero, List.set_cons_succ, List.getElem_toArray, List.getElem_cons_zero, List.getElem_cons_succ]
        refine wpAnyH_take (i := 10) (v := ?_) rfl (by kernel_rfl) (by kernel_rfl) (by kernel_rfl) (fun _ _ _ h => h) (Or.inl ⟨by rfl, ?_⟩) (by assumption) ?_
        rotate_left
        · (intro w hSw; (try dsimp only at hSw); go_simp; try (with_reducible rfl))
        try simp only [Act.put, List.setIfInBounds_toArray, List.set_cons_zero, List.set_cons_succ, List.getElem_toArray, List.getElem_cons_zero, List.getElem_cons_succ]
        refine wpAnyH_done (by kernel_rfl) ?_ _
        refine NoPanic.normal ?_
        clear hHeld b0 b1 t1 t0 d0 d1 d2
        obtain ⟨HK2⟩ : Nonempty (Hid (Below w1.heap.size w1 w2)) := ⟨HK.out.2.trans (HB2.out.mono HK.out.2.size)⟩
        cases ah with
        | true =>
          obtain ⟨HN⟩ : Nonempty (Hid (PUTG L pa pn (j + 1))) := ⟨⟨by omega, fun i hi h => by
            rcases Nat.lt_or_ge i j with h' | h'
            · exact HK.out.1.2 i h' h
            · obtain rfl : i = j := by omega
              exact HLT.out⟩⟩
          go_wp2_with fail
          go_roundw
          case rel => first | exact ⟨j + 1, by go_num, ⟨HN.out, HK2.out⟩, by omega⟩ | ((repeat apply Exists.intro); exact ⟨⟨j + 1, by go_num, ⟨HN.out, HK2.out⟩, by omega⟩, rfl⟩)
          case measure => simp [intOf]; omega
        | false =>
          obtain ⟨hbw, ho, b0, b1, t1, t0, hqe⟩ := HA.out _ HK2.out
          obtain ⟨b2, o2, he, d0, d1, d2⟩ := hqe j hlt
          simp only [Option.some.injEq, Addr.mk.injEq, and_true] at he
          obtain ⟨rfl, rfl⟩ := he
          rw [Nat.zero_add] at d0 d1 d2
          rw [hx.out] at d0 d1 d2
          simp only at d0 d1 d2
          by_cases heq : x0 = pa ∧ x1 = pn
          · obtain ⟨rfl, rfl⟩ := heq
            have hjp : L[j].1 = (x0, x1) := by rw [hx.out]
            have hhas : hasL L (x0, x1) = true := (hasL_iff _ _).2 ⟨_, List.getElem_mem hlt, hjp⟩
            have e1 : putC L mo x0 x1 = 0 := by unfold putC; rw [hr, if_pos rfl, if_neg (fun h => by have := h.1; rw [hhas] at this; cases this)]
            have e2 : L.set j (L[j].1, hop) = L' := by rw [← HL'.out]; unfold putS; rw [e1, if_pos rfl, put_at hlt HK.out.1.2 hjp, hjp]
            obtain rfl : 0 = res := by rw [← Hres.out, e1]; rfl
            have hbD : ∀ k, Below w.heap.size w (w2.drewN k) := fun k => below_drewN hbw k
            obtain ⟨HH⟩ : Nonempty (Hid (∀ k, _)) := ⟨fun k => rtab_hop (hop := hop) HT.out.1 HT.out.2.2.1 (hbD k) hlt⟩
            obtain ⟨HE2⟩ : Nonempty (Hid (L.set j (L[j].1, hop) = L')) := ⟨e2⟩
            clear e1 e2 hhas hjp hbw ho hqe hbD
            go_wp2_with fail
            go_quiet (fail)
            have hfz := (HH.out nq).1
            go_wp2_with fail
            go_ret
            rw [← HE2.out]
            exact ⟨rfl, (HH.out nq).2⟩
          · have hne : L[j].1 ≠ (pa, pn) := by rw [hx.out]; exact fun e => heq (by simpa using e)
            have hnl : ¬ lt2 L[j].1 (pa, pn) = true := by rw [HLT.out]; simp
            have hno : hasL L (pa, pn) = false := has_ins HT.out.2.1 (by omega) HK.out.1.2 (fun _ => ⟨hnl, hne⟩)
            obtain ⟨HP⟩ : Nonempty (Hid (hasL L (pa, pn) = false ∧ putL L ((pa, pn), hop) = L.take j ++ [((pa, pn), hop)] ++ L.drop j)) := ⟨⟨hno, put_ins (by omega) HK.out.1.2 (fun _ => ⟨hnl, hne⟩)⟩⟩
            obtain ⟨HQ⟩ : Nonempty (Hid (Below w.heap.size w w2 ∧ Ents w2 (some ⟨g, 0, none⟩) L)) := ⟨⟨hbw, hqe⟩⟩
            clear hne hnl hno hbw ho hqe
            by_cases hx0 : x0 = pa
            · subst hx0
              have hx1 : ¬ x1 = pn := fun e => heq ⟨rfl, e⟩
              have hx1' : (x1 == pn) = false := by simpa using hx1
              clear heq
              go_wp2_with fail
              go_quiet (fail)
              obtain ⟨wq, hwq⟩ : ∃ x, Hid (w2.drewN nq = x) := ⟨_, show _ = _ from rfl⟩
              rw [show w2.drewN nq = wq from hwq.out]
              obtain ⟨HKq⟩ : Nonempty (Hid (Below w1.heap.size w1 wq)) := ⟨by rw [← hwq.out]; exact below_drewN HK2.out _⟩
              clear b0 b1 t1 t0 d0 d1 d2 HQ
              obtain ⟨hbw, ho, b0, b1, t1, t0, hqe⟩ := HA.out _ HKq.out
              obtain ⟨b2, o2, he, d0, d1, d2⟩ := hqe j hlt
              simp only [Option.some.injEq, Addr.mk.injEq, and_true] at he
              obtain ⟨rfl, rfl⟩ := he
              rw [Nat.zero_add] at d0 d1 d2
              rw [hx.out] at d0 d1 d2
              simp only at d0 d1 d2
              clear hbw ho hqe
              go_wp2_with fail
              by_cases hfull : mo ≤ (L.length : Int)
              · have e1 : putC L mo x0 pn = 7 := by unfold putC; rw [hr, if_pos rfl, if_pos ⟨HP.out.1, hfull⟩]
                have e2 : L = L' := by rw [← HL'.out]; unfold putS; rw [e1, if_neg (by omega)]
                subst e2
                obtain rfl : 7 = res := by rw [← Hres.out, e1]; rfl
                have hd : decide (mo ≤ (L.length : Int)) = true := decide_eq_true hfull
                clear e1
                go_quiet (fail)
                go_wp2_with fail
                go_ret
                exact rpost_same HT.out.1 (HA.out _ (by first | exact below_drewN HKq.out _ | exact below_drewN (below_drewN HKq.out _) _)).1
              · have e1 : putC L mo x0 pn = 0 := by unfold putC; rw [hr, if_pos rfl, if_neg (fun h => hfull h.2)]
                have e2 : putL L ((x0, pn), hop) = L' := by rw [← HL'.out]; unfold putS; rw [e1, if_pos rfl]
                obtain rfl : 0 = res := by rw [← Hres.out, e1]; rfl
                obtain ⟨HL2⟩ : Nonempty (Hid (putL L ((x0, pn), hop) = L')) := ⟨e2⟩
                have hd : decide (mo ≤ (L.length : Int)) = false := decide_eq_false hfull
                have hfull' : (L.length : Int) < mo := by omega
                clear e1 e2 hfull
                go_quiet (fail)
                obtain ⟨X, hX⟩ : ∃ x, Hid (wq.drewN nq = x) := ⟨_, show _ = _ from rfl⟩
                obtain ⟨HBX⟩ : Nonempty (Hid (Below w1.heap.size w1 X)) := ⟨by rw [← hX.out]; first | exact below_drewN HKq.out _ | exact below_drewN (below_drewN HKq.out _) _⟩
                rw [show wq.drewN nq = X from hX.out]
                clear b0 b1 t1 t0 d0 d1 d2
                obtain ⟨hbw, ho, b0, b1, t1, t0, hqe⟩ := HA.out X HBX.out
                obtain ⟨HE1⟩ : Nonempty (Hid (Ents X (some ⟨g, 0, none⟩) L)) := ⟨hqe⟩
                have q5 : (L.length : Int) ≤ cap := by omega
                have q6 : (j : Int) ≤ L.length := by omega
                obtain ⟨s1, hs1⟩ : ∃ x, Hid (w1.heap.size = x) := ⟨_, show _ = _ from rfl⟩
                have hbX : s1 ≤ X.heap.size := by rw [← hs1.out]; exact HBX.out.size
                obtain ⟨O1, HO1⟩ : ∃ O', Hid ([] ++ L.take j = O') := ⟨_, show _ = _ from rfl⟩
                have hO1 : O1.length ≤ 1000000 := by rw [← HO1.out]; simp; omega
                clear hbw ho hqe
                go_wp2_with (at_builtin; refine wp_addAll3 rfl _ _ 31 rfl s1 38 i0 Tryd.underlying31 hi hz0 hz1 hz2 _ [] rfl (World.ownsRow_nil _ _ _ _) _ (L.take j) _ _ rfl (by simp; try omega) (.inr ⟨_, _, rfl⟩) (ents_take HE1.out j) O1 HO1 (by simp; try omega) hbX ?_)
                rintro v2 y2 hown2 hb2
                obtain ⟨HB2y⟩ : Nonempty (Hid (Below w1.heap.size w1 y2)) := ⟨HBX.out.trans (by rw [hs1.out]; exact hb2)⟩
                clear b0 b1 t1 t0 hb2
                obtain ⟨hbw, ho, b0, b1, t1, t0, hqe⟩ := HA.out y2 HB2y.out
                have hby : s1 ≤ y2.heap.size := by rw [← hs1.out]; exact HB2y.out.size
                obtain ⟨O2, HO2⟩ : ∃ O', Hid (O1 ++ [((x0, pn), hop)] = O') := ⟨_, show _ = _ from rfl⟩
                clear hbw ho hqe
                go_wp2_with (at_builtin; refine wp_push3 rfl _ _ 31 rfl s1 38 i0 Tryd.underlying31 hi hz0 hz1 hz2 _ O1 rfl hown2 x0 pn hop _ rfl rfl O2 HO2 (by omega) hby ?_)
                rintro v3 y3 hown3 hb3
                obtain ⟨HB3⟩ : Nonempty (Hid (Below w1.heap.size w1 y3)) := ⟨HB2y.out.trans (by rw [hs1.out]; exact hb3)⟩
                clear b0 b1 t1 t0 hb3 hown2
                obtain ⟨hbw, ho, b0, b1, t1, t0, hqe⟩ := HA.out y3 HB3.out
                have hby3 : s1 ≤ y3.heap.size := by rw [← hs1.out]; exact HB3.out.size
                have hO2 : O2.length ≤ 1000001 := by rw [← HO2.out]; simp; omega
                obtain ⟨O3, HO3⟩ : ∃ O', Hid (O2 ++ L.drop j = O') := ⟨_, show _ = _ from rfl⟩
                obtain ⟨HE3⟩ : Nonempty (Hid (Ents y3 (some ⟨g, 0 + j * 3, none⟩) (L.drop j))) := ⟨ents_drop hqe j⟩
                rw [Nat.zero_add] at HE3
                clear hbw ho hqe
                have hce : ¬ cap = j := by omega
                go_wp2_with (at_builtin; refine wp_addAll3 rfl _ _ 31 rfl s1 38 i0 Tryd.underlying31 hi hz0 hz1 hz2 _ O2 rfl hown3 _ (L.drop j) _ _ rfl (by simp) (.inr ⟨_, _, rfl⟩) HE3.out O3 HO3 (by simp; try omega) hby3 ?_)
                rintro v4 y4 hown4 hb4
                obtain ⟨HB4⟩ : Nonempty (Hid (Below w1.heap.size w1 y4)) := ⟨HB3.out.trans (by rw [hs1.out]; exact hb4)⟩
                clear b0 b1 t1 t0 hb4 hown3
                obtain ⟨hbw, ho, b0, b1, t1, t0, hqe⟩ := HA.out y4 HB4.out
                obtain ⟨q6', c6, rfl, -, -, -⟩ := own_ents hown4
                have tz := (rtab_cells ho).2.2
                obtain ⟨HF⟩ : Nonempty (Hid (∃ G', _)) := ⟨rtab_new HT.out.2.2.1 hrG hbw (own_less hown4 (by rw [← hs1.out]; exact HI.out.1.size))⟩
                have hLL : O3 = L' := by rw [← HO3.out, ← HO2.out, ← HO1.out, ← HL2.out, HP.out.2]; simp
                subst hLL
                clear hown4 hbw ho hqe
                go_wp2_with fail
                go_ret
                exact ⟨rfl, HF.out⟩
            · have hx0' : (x0 == pa) = false := by simpa using hx0
              clear heq
              go_wp2_with fail
              go_quiet (fail)
              obtain ⟨wq, hwq⟩ : ∃ x, Hid (w2.drewN nq = x) := ⟨_, show _ = _ from rfl⟩
              rw [show w2.drewN nq = wq from hwq.out]
              obtain ⟨HKq⟩ : Nonempty (Hid (Below w1.heap.size w1 wq)) := ⟨by rw [← hwq.out]; exact below_drewN HK2.out _⟩
              clear b0 b1 t1 t0 d0 d1 d2 HQ
              obtain ⟨hbw, ho, b0, b1, t1, t0, hqe⟩ := HA.out _ HKq.out
              obtain ⟨b2, o2, he, d0, d1, d2⟩ := hqe j hlt
              simp only [Option.some.injEq, Addr.mk.injEq, and_true] at he
              obtain ⟨rfl, rfl⟩ := he
              rw [Nat.zero_add] at d0 d1 d2
              rw [hx.out] at d0 d1 d2
              simp only at d0 d1 d2
              clear hbw ho hqe
              go_wp2_with fail
              by_cases hfull : mo ≤ (L.length : Int)
              · have e1 : putC L mo pa pn = 7 := by unfold putC; rw [hr, if_pos rfl, if_pos ⟨HP.out.1, hfull⟩]
                have e2 : L = L' := by rw [← HL'.out]; unfold putS; rw [e1, if_neg (by omega)]
                subst e2
                obtain rfl : 7 = res := by rw [← Hres.out, e1]; rfl
                have hd : decide (mo ≤ (L.length : Int)) = true := decide_eq_true hfull
                clear e1
                go_quiet (fail)
                go_wp2_with fail
                go_ret
                exact rpost_same HT.out.1 (HA.out _ (by first | exact below_drewN HKq.out _ | exact below_drewN (below_drewN HKq.out _) _)).1
              · have e1 : putC L mo pa pn = 0 := by unfold putC; rw [hr, if_pos rfl, if_neg (fun h => hfull h.2)]
                have e2 : putL L ((pa, pn), hop) = L' := by rw [← HL'.out]; unfold putS; rw [e1, if_pos rfl]
                obtain rfl : 0 = res := by rw [← Hres.out, e1]; rfl
                obtain ⟨HL2⟩ : Nonempty (Hid (putL L ((pa, pn), hop) = L')) := ⟨e2⟩
                have hd : decide (mo ≤ (L.length : Int)) = false := decide_eq_false hfull
                have hfull' : (L.length : Int) < mo := by omega
                clear e1 e2 hfull
                go_quiet (fail)
                obtain ⟨X, hX⟩ : ∃ x, Hid (wq.drewN nq = x) := ⟨_, show _ = _ from rfl⟩
                obtain ⟨HBX⟩ : Nonempty (Hid (Below w1.heap.size w1 X)) := ⟨by rw [← hX.out]; first | exact below_drewN HKq.out _ | exact below_drewN (below_drewN HKq.out _) _⟩
                rw [show wq.drewN nq = X from hX.out]
                clear b0 b1 t1 t0 d0 d1 d2
                obtain ⟨hbw, ho, b0, b1, t1, t0, hqe⟩ := HA.out X HBX.out
                obtain ⟨HE1⟩ : Nonempty (Hid (Ents X (some ⟨g, 0, none⟩) L)) := ⟨hqe⟩
                have q5 : (L.length : Int) ≤ cap := by omega
                have q6 : (j : Int) ≤ L.length := by omega
                obtain ⟨s1, hs1⟩ : ∃ x, Hid (w1.heap.size = x) := ⟨_, show _ = _ from rfl⟩
                have hbX : s1 ≤ X.heap.size := by rw [← hs1.out]; exact HBX.out.size
                obtain ⟨O1, HO1⟩ : ∃ O', Hid ([] ++ L.take j = O') := ⟨_, show _ = _ from rfl⟩
                have hO1 : O1.length ≤ 1000000 := by rw [← HO1.out]; simp; omega
                clear hbw ho hqe
                go_wp2_with (at_builtin; refine wp_addAll3 rfl _ _ 31 rfl s1 38 i0 Tryd.underlying31 hi hz0 hz1 hz2 _ [] rfl (World.ownsRow_nil _ _ _ _) _ (L.take j) _ _ rfl (by simp; try omega) (.inr ⟨_, _, rfl⟩) (ents_take HE1.out j) O1 HO1 (by simp; try omega) hbX ?_)
                rintro v2 y2 hown2 hb2
                obtain ⟨HB2y⟩ : Nonempty (Hid (Below w1.heap.size w1 y2)) := ⟨HBX.out.trans (by rw [hs1.out]; exact hb2)⟩
                clear b0 b1 t1 t0 hb2
                obtain ⟨hbw, ho, b0, b1, t1, t0, hqe⟩ := HA.out y2 HB2y.out
                have hby : s1 ≤ y2.heap.size := by rw [← hs1.out]; exact HB2y.out.size
                obtain ⟨O2, HO2⟩ : ∃ O', Hid (O1 ++ [((pa, pn), hop)] = O') := ⟨_, show _ = _ from rfl⟩
                clear hbw ho hqe
                go_wp2_with (at_builtin; refine wp_push3 rfl _ _ 31 rfl s1 38 i0 Tryd.underlying31 hi hz0 hz1 hz2 _ O1 rfl hown2 pa pn hop _ rfl rfl O2 HO2 (by omega) hby ?_)
                rintro v3 y3 hown3 hb3
                obtain ⟨HB3⟩ : Nonempty (Hid (Below w1.heap.size w1 y3)) := ⟨HB2y.out.trans (by rw [hs1.out]; exact hb3)⟩
                clear b0 b1 t1 t0 hb3 hown2
                obtain ⟨hbw, ho, b0, b1, t1, t0, hqe⟩ := HA.out y3 HB3.out
                have hby3 : s1 ≤ y3.heap.size := by rw [← hs1.out]; exact HB3.out.size
                have hO2 : O2.length ≤ 1000001 := by rw [← HO2.out]; simp; omega
                obtain ⟨O3, HO3⟩ : ∃ O', Hid (O2 ++ L.drop j = O') := ⟨_, show _ = _ from rfl⟩
                obtain ⟨HE3⟩ : Nonempty (Hid (Ents y3 (some ⟨g, 0 + j * 3, none⟩) (L.drop j))) := ⟨ents_drop hqe j⟩
                rw [Nat.zero_add] at HE3
                clear hbw ho hqe
                have hce : ¬ cap = j := by omega
                go_wp2_with (at_builtin; refine wp_addAll3 rfl _ _ 31 rfl s1 38 i0 Tryd.underlying31 hi hz0 hz1 hz2 _ O2 rfl hown3 _ (L.drop j) _ _ rfl (by simp) (.inr ⟨_, _, rfl⟩) HE3.out O3 HO3 (by simp; try omega) hby3 ?_)
                rintro v4 y4 hown4 hb4
                obtain ⟨HB4⟩ : Nonempty (Hid (Below w1.heap.size w1 y4)) := ⟨HB3.out.trans (by rw [hs1.out]; exact hb4)⟩
                clear b0 b1 t1 t0 hb4 hown3
                obtain ⟨hbw, ho, b0, b1, t1, t0, hqe⟩ := HA.out y4 HB4.out
                obtain ⟨q6', c6, rfl, -, -, -⟩ := own_ents hown4
                have tz := (rtab_cells ho).2.2
                obtain ⟨HF⟩ : Nonempty (Hid (∃ G', _)) := ⟨rtab_new HT.out.2.2.1 hrG hbw (own_less hown4 (by rw [← hs1.out]; exact HI.out.1.size))⟩
                have hLL : O3 = L' := by rw [← HO3.out, ← HO2.out, ← HO1.out, ← HL2.out, HP.out.2]; simp
                subst hLL
                clear hown4 hbw ho hqe
                go_wp2_with fail
                go_ret
                exact ⟨rfl, HF.out⟩
      · as_aux_lemma =>
        obtain rfl : j = L.length := by omega
        clear hlt hjl
        have hno : hasL L (pa, pn) = false := has_ins HT.out.2.1 (Nat.le_refl _) HK.out.1.2 (fun h => by omega)
        obtain ⟨HP⟩ : Nonempty (Hid (hasL L (pa, pn) = false ∧ putL L ((pa, pn), hop) = L.take L.length ++ [((pa, pn), hop)] ++ L.drop L.length)) := ⟨⟨hno, put_ins (Nat.le_refl _) HK.out.1.2 (fun h => by omega)⟩⟩
        clear hno
        go_wp2_with fail
        by_cases hfull : mo ≤ (L.length : Int)
        · have e1 : putC L mo pa pn = 7 := by unfold putC; rw [hr, if_pos rfl, if_pos ⟨HP.out.1, hfull⟩]
          have e2 : L = L' := by rw [← HL'.out]; unfold putS; rw [e1, if_neg (by omega)]
          subst e2
          obtain rfl : 7 = res := by rw [← Hres.out, e1]; rfl
          have hd : decide (mo ≤ (L.length : Int)) = true := decide_eq_true hfull
          clear e1
          go_quiet (fail)
          go_wp2_with fail
          go_ret
          exact rpost_same HT.out.1 (HA.out _ (by first | exact below_drewN HK.out.2 _ | exact below_drewN (below_drewN HK.out.2 _) _)).1
        · have e1 : putC L mo pa pn = 0 := by unfold putC; rw [hr, if_pos rfl, if_neg (fun h => hfull h.2)]
          have e2 : putL L ((pa, pn), hop) = L' := by rw [← HL'.out]; unfold putS; rw [e1, if_pos rfl]
          obtain rfl : 0 = res := by rw [← Hres.out, e1]; rfl
          obtain ⟨HL2⟩ : Nonempty (Hid (putL L ((pa, pn), hop) = L')) := ⟨e2⟩
          have hd : decide (mo ≤ (L.length : Int)) = false := decide_eq_false hfull
          have hfull' : (L.length : Int) < mo := by omega
          clear e1 e2 hfull
          go_quiet (fail)
          obtain ⟨X, hX⟩ : ∃ x, Hid (wr.drewN nq = x) := ⟨_, show _ = _ from rfl⟩
          obtain ⟨HBX⟩ : Nonempty (Hid (Below w1.heap.size w1 X)) := ⟨by rw [← hX.out]; first | exact below_drewN HK.out.2 _ | exact below_drewN (below_drewN HK.out.2 _) _⟩
          rw [show wr.drewN nq = X from hX.out]
          clear b0 b1 t1 t0
          obtain ⟨hbw, ho, b0, b1, t1, t0, hqe⟩ := HA.out X HBX.out
          obtain ⟨HE1⟩ : Nonempty (Hid (Ents X (some ⟨g, 0, none⟩) L)) := ⟨hqe⟩
          have q5 : (L.length : Int) ≤ cap := by omega
          obtain ⟨s1, hs1⟩ : ∃ x, Hid (w1.heap.size = x) := ⟨_, show _ = _ from rfl⟩
          have hbX : s1 ≤ X.heap.size := by rw [← hs1.out]; exact HBX.out.size
          obtain ⟨O1, HO1⟩ : ∃ O', Hid ([] ++ L.take L.length = O') := ⟨_, show _ = _ from rfl⟩
          have hO1 : O1.length ≤ 1000000 := by rw [← HO1.out]; simp; omega
          clear hbw ho hqe
          go_wp2_with (at_builtin; refine wp_addAll3 rfl _ _ 31 rfl s1 38 i0 Tryd.underlying31 hi hz0 hz1 hz2 _ [] rfl (World.ownsRow_nil _ _ _ _) _ (L.take L.length) _ _ rfl (by simp; try omega) (.inr ⟨_, _, rfl⟩) (ents_take HE1.out L.length) O1 HO1 (by simp; try omega) hbX ?_)
          rintro v2 y2 hown2 hb2
          obtain ⟨HB2y⟩ : Nonempty (Hid (Below w1.heap.size w1 y2)) := ⟨HBX.out.trans (by rw [hs1.out]; exact hb2)⟩
          clear b0 b1 t1 t0 hb2
          obtain ⟨hbw, ho, b0, b1, t1, t0, hqe⟩ := HA.out y2 HB2y.out
          have hby : s1 ≤ y2.heap.size := by rw [← hs1.out]; exact HB2y.out.size
          obtain ⟨O2, HO2⟩ : ∃ O', Hid (O1 ++ [((pa, pn), hop)] = O') := ⟨_, show _ = _ from rfl⟩
          clear hbw ho hqe
          go_wp2_with (at_builtin; refine wp_push3 rfl _ _ 31 rfl s1 38 i0 Tryd.underlying31 hi hz0 hz1 hz2 _ O1 rfl hown2 pa pn hop _ rfl rfl O2 HO2 (by omega) hby ?_)
          rintro v3 y3 hown3 hb3
          obtain ⟨HB3⟩ : Nonempty (Hid (Below w1.heap.size w1 y3)) := ⟨HB2y.out.trans (by rw [hs1.out]; exact hb3)⟩
          clear b0 b1 t1 t0 hb3 hown2
          obtain ⟨hbw, ho, b0, b1, t1, t0, hqe⟩ := HA.out y3 HB3.out
          have hby3 : s1 ≤ y3.heap.size := by rw [← hs1.out]; exact HB3.out.size
          have hO2 : O2.length ≤ 1000001 := by rw [← HO2.out]; simp; omega
          obtain ⟨O3, HO3⟩ : ∃ O', Hid (O2 ++ L.drop L.length = O') := ⟨_, show _ = _ from rfl⟩
          obtain ⟨HE3⟩ : Nonempty (Hid (Ents y3 (some ⟨g, 0 + L.length * 3, none⟩) (L.drop L.length))) := ⟨ents_drop hqe L.length⟩
          rw [Nat.zero_add] at HE3
          clear hbw ho hqe
          by_cases hce : cap = L.length
          · have hnil : L.drop L.length = [] := by apply List.drop_of_length_le; omega
            go_wp2_with (at_builtin; refine wp_addAll3 rfl _ _ 31 rfl s1 38 i0 Tryd.underlying31 hi hz0 hz1 hz2 _ O2 rfl hown3 _ (L.drop L.length) _ _ rfl (by simp) (.inr ⟨_, _, rfl⟩) (by rw [hnil]; exact ents_nil _ _) O3 HO3 (by simp; try omega) hby3 ?_)
            rintro v4 y4 hown4 hb4
            obtain ⟨HB4⟩ : Nonempty (Hid (Below w1.heap.size w1 y4)) := ⟨HB3.out.trans (by rw [hs1.out]; exact hb4)⟩
            clear b0 b1 t1 t0 hb4 hown3
            obtain ⟨hbw, ho, b0, b1, t1, t0, hqe⟩ := HA.out y4 HB4.out
            obtain ⟨q6', c6, rfl, -, -, -⟩ := own_ents hown4
            have tz := (rtab_cells ho).2.2
            obtain ⟨HF⟩ : Nonempty (Hid (∃ G', _)) := ⟨rtab_new HT.out.2.2.1 hrG hbw (own_less hown4 (by rw [← hs1.out]; exact HI.out.1.size))⟩
            have hLL : O3 = L' := by rw [← HO3.out, ← HO2.out, ← HO1.out, ← HL2.out, HP.out.2]; simp
            subst hLL
            clear hown4 hbw ho hqe
            go_wp2_with fail
            go_ret
            exact ⟨rfl, HF.out⟩
          · skip
            go_wp2_with (at_builtin; refine wp_addAll3 rfl _ _ 31 rfl s1 38 i0 Tryd.underlying31 hi hz0 hz1 hz2 _ O2 rfl hown3 _ (L.drop L.length) _ _ rfl (by simp) (.inr ⟨_, _, rfl⟩) HE3.out O3 HO3 (by simp; try omega) hby3 ?_)
            rintro v4 y4 hown4 hb4
            obtain ⟨HB4⟩ : Nonempty (Hid (Below w1.heap.size w1 y4)) := ⟨HB3.out.trans (by rw [hs1.out]; exact hb4)⟩
            clear b0 b1 t1 t0 hb4 hown3
            obtain ⟨hbw, ho, b0, b1, t1, t0, hqe⟩ := HA.out y4 HB4.out
            obtain ⟨q6', c6, rfl, -, -, -⟩ := own_ents hown4
            have tz := (rtab_cells ho).2.2
            obtain ⟨HF⟩ : Nonempty (Hid (∃ G', _)) := ⟨rtab_new HT.out.2.2.1 hrG hbw (own_less hown4 (by rw [← hs1.out]; exact HI.out.1.size))⟩
            have hLL : O3 = L' := by rw [← HO3.out, ← HO2.out, ← HO1.out, ← HL2.out, HP.out.2]; simp
            subst hLL
            clear hown4 hbw ho hqe
            go_wp2_with fail
            go_ret
            exact ⟨rfl, HF.out⟩
set_option linter.unusedVariables false in
set_option linter.unusedSimpArgs false in
set_option maxRecDepth 100000 in
set_option maxHeartbeats 2000000 in
theorem rPut_nil (rb : Nat)  (mo pa pn hop : Int) (G : List Nat) (w : World) (h : RTab w rb ([] : List Ent) mo G) (hv : w.heap[rb]? = some (rtabObj mo (.slice none 0 0))) (hrG : rb ∈ G) :
    Calls Tryd.prog 28 #[.pointer (some ⟨rb, 0, none⟩), .agg #[.int .i64 pa, .int .i64 pn], .int .i64 hop] w (RPost mo G rb (putC ([] : List Ent) mo pa pn) (putS ([] : List Ent) mo pa pn hop) w) := by
  obtain ⟨L, hLn⟩ : ∃ L : List Ent, L = [] := ⟨_, rfl⟩
  rw [← hLn] at h ⊢
  have hs : Srt L := by rw [hLn]; exact srt_nil
  obtain ⟨i0, hi, hz0, hz1, hz2⟩ := info_parts3 infoREnt
  obtain ⟨HT⟩ : Nonempty (Hid (RTab w rb L mo G ∧ Srt L ∧ w.heap[rb]? = some (rtabObj mo (.slice none 0 0)))) := ⟨⟨h, hs, hv⟩⟩
  have hba := below_alloc w (.cells #[.int .i64 pa, .int .i64 pn] 36)
  obtain ⟨a0, a1⟩ := box_at w (.int .i64 pa) (.int .i64 pn) 36
  have hrb := (Array.getElem?_eq_some_iff.1 hv).1
  clear h hs hv
  obtain ⟨sz, hsz⟩ : ∃ b, Hid (w.heap.size = b) := ⟨_, show _ = _ from rfl⟩
  obtain ⟨W, hW⟩ : ∃ X, Hid (w.alloc (.cells #[.int .i64 pa, .int .i64 pn] 36) = X) := ⟨_, show _ = _ from rfl⟩
  rw [show w.alloc (.cells #[.int .i64 pa, .int .i64 pn] 36) = W from hW.out] at hba a0 a1
  rw [show w.heap.size = sz from hsz.out] at a0 a1
  obtain ⟨c, hc⟩ : ∃ c : Int, Hid ((chkC pa pn : Int) = c) := ⟨_, show _ = _ from rfl⟩
  obtain ⟨HC⟩ : Nonempty (Hid (Calls _ _ _ _ _)) := ⟨rPrefixError_at pa pn c hc W⟩
  obtain ⟨res, Hres⟩ : ∃ v : Int, Hid ((putC L mo pa pn : Int) = v) := ⟨_, show _ = _ from rfl⟩
  obtain ⟨L', HL'⟩ : ∃ v, Hid (putS L mo pa pn hop = v) := ⟨_, show _ = _ from rfl⟩
  rw [show (putC L mo pa pn : Int) = res from Hres.out, show putS L mo pa pn hop = L' from HL'.out]
  go_enter Tryd.func28, Tryd.ntmps28
  go_upto_region 1 with fail
  rw [show w.alloc (.cells #[.int .i64 pa, .int .i64 pn] 36) = W from hW.out, show w.heap.size = sz from hsz.out]
  cases hr : rt pa pn with
  | false =>
    as_aux_lemma =>
    have e1 : putC L mo pa pn = chkC pa pn := by unfold putC; rw [hr, if_neg (by simp)]
    have e2 : L = L' := by rw [← HL'.out]; unfold putS; rw [e1, if_neg (chkC_ne hr)]
    subst e2
    obtain rfl : c = res := by rw [← Hres.out, e1]; exact hc.out.symm
    have hcp : 0 < c := by have := chkC_ne hr; have := hc.out; omega
    clear e1
    go_wp2_with fail
    refine HC.out.mono ?_
    clear HC
    rintro e w1 ⟨rfl, hb1⟩
    have hb2 := hba.trans (hb1.mono hba.size)
    clear hb1
    go_wp2_with fail
    go_ret
    exact rpost_same HT.out.1 hb2
  | true =>
    as_aux_lemma =>
    obtain rfl : c = 0 := by rw [← hc.out, chkC_rt pa pn hr]; rfl
    go_wp2_with fail
    refine HC.out.mono ?_
    clear HC
    rintro e w1 ⟨rfl, hb1⟩
    have hb2 := hba.trans (hb1.mono hba.size)
    have b0 := cell_kept hb1 a0
    have b1 := cell_kept hb1 a1
    obtain ⟨HI⟩ : Nonempty (Hid (Below w.heap.size w w1 ∧ w1.cell? ⟨sz, 0, none⟩ = some (.int .i64 pa) ∧ w1.cell? ⟨sz, 1, none⟩ = some (.int .i64 pn))) := ⟨⟨hb2, b0, b1⟩⟩
    obtain ⟨HA⟩ : Nonempty (Hid (∀ wr, Below w1.heap.size w1 wr → Below w.heap.size w wr ∧ wr.heap[rb]? = some (rtabObj mo (.slice none 0 0)) ∧ wr.cell? ⟨sz, 0, none⟩ = some (.int .i64 pa) ∧ wr.cell? ⟨sz, 1, none⟩ = some (.int .i64 pn) ∧ wr.cell? ⟨rb, 1, none⟩ = some (.slice none 0 0) ∧ wr.cell? ⟨rb, 0, none⟩ = some (.int .i64 mo))) := ⟨fun wr hbr => by
      have hbw := hb2.trans (hbr.mono hb2.size)
      have ho : wr.heap[rb]? = some (rtabObj mo (.slice none 0 0)) := by rw [hbw.block rb hrb]; exact HT.out.2.2
      exact ⟨hbw, ho, cell_kept hbr b0, cell_kept hbr b1, (rtab_cells ho).2.1, (rtab_cells ho).1⟩⟩
    clear hb1 hb2 a0 a1 b0 b1 hba
    obtain ⟨hbw, ho, b0, b1, t1, t0⟩ := HA.out _ (Below.refl _ _)
    obtain ⟨HQ⟩ : Nonempty (Hid (Below w.heap.size w w1)) := ⟨hbw⟩
    obtain ⟨HP⟩ : Nonempty (Hid (hasL L (pa, pn) = false ∧ putL L ((pa, pn), hop) = [((pa, pn), hop)])) := ⟨by rw [hLn]; exact ⟨rfl, rfl⟩⟩
    clear hbw ho
    have hl0 : (L.length : Int) = 0 := by rw [hLn]; rfl
    go_wp2_with fail
    refine wp_loop_rounds 1 ?_
    rw [rounds_succ]
    go_wp2_with fail
    by_cases hfull : mo ≤ (L.length : Int)
    · have e1 : putC L mo pa pn = 7 := by unfold putC; rw [hr, if_pos rfl, if_pos ⟨HP.out.1, hfull⟩]
      have e2 : L = L' := by rw [← HL'.out]; unfold putS; rw [e1, if_neg (by omega)]
      subst e2
      obtain rfl : 7 = res := by rw [← Hres.out, e1]; rfl
      have hd : decide (mo ≤ (L.length : Int)) = true := decide_eq_true hfull
      clear e1
      go_quiet (fail)
      go_wp2_with fail
      go_ret
      exact rpost_same HT.out.1 (HA.out _ (by first | exact below_drewN (Below.refl _ _) _ | exact below_drewN (below_drewN (Below.refl _ _) _) _)).1
    · have e1 : putC L mo pa pn = 0 := by unfold putC; rw [hr, if_pos rfl, if_neg (fun h => hfull h.2)]
      have e2 : putL L ((pa, pn), hop) = L' := by rw [← HL'.out]; unfold putS; rw [e1, if_pos rfl]
      obtain rfl : 0 = res := by rw [← Hres.out, e1]; rfl
      obtain ⟨HL2⟩ : Nonempty (Hid (putL L ((pa, pn), hop) = L')) := ⟨e2⟩
      have hd : decide (mo ≤ (L.length : Int)) = false := decide_eq_false hfull
      have hfull' : (L.length : Int) < mo := by omega
      clear e1 e2 hfull
      go_quiet (fail)
      obtain ⟨X, hX⟩ : ∃ x, Hid (w1.drewN nq = x) := ⟨_, show _ = _ from rfl⟩
      obtain ⟨HBX⟩ : Nonempty (Hid (Below w1.heap.size w1 X)) := ⟨by rw [← hX.out]; first | exact below_drewN (Below.refl _ _) _ | exact below_drewN (below_drewN (Below.refl _ _) _) _⟩
      rw [show w1.drewN nq = X from hX.out]
      clear b0 b1 t1 t0
      obtain ⟨hbw, ho, b0, b1, t1, t0⟩ := HA.out X HBX.out
      obtain ⟨s1, hs1⟩ : ∃ x, Hid (w1.heap.size = x) := ⟨_, show _ = _ from rfl⟩
      have hbX : s1 ≤ X.heap.size := by rw [← hs1.out]; exact HBX.out.size
      obtain ⟨O1, HO1⟩ : ∃ O', Hid ([] ++ L.take 0 = O') := ⟨_, show _ = _ from rfl⟩
      have hO1 : O1.length ≤ 1000000 := by rw [← HO1.out]; simp [hLn]
      clear hbw ho
      go_wp2_with (at_builtin; refine wp_addAll3 rfl _ _ 31 rfl s1 38 i0 Tryd.underlying31 hi hz0 hz1 hz2 _ [] rfl (World.ownsRow_nil _ _ _ _) _ (L.take 0) _ _ rfl (by simp [hLn]) (.inl ⟨rfl, rfl⟩) (by rw [hLn]; exact ents_nil _ _) O1 HO1 (by simp [hLn]) hbX ?_)
      rintro v2 y2 hown2 hb2
      obtain ⟨HB2y⟩ : Nonempty (Hid (Below w1.heap.size w1 y2)) := ⟨HBX.out.trans (by rw [hs1.out]; exact hb2)⟩
      clear b0 b1 t1 t0 hb2
      obtain ⟨hbw, ho, b0, b1, t1, t0⟩ := HA.out y2 HB2y.out
      have hby : s1 ≤ y2.heap.size := by rw [← hs1.out]; exact HB2y.out.size
      obtain ⟨O2, HO2⟩ : ∃ O', Hid (O1 ++ [((pa, pn), hop)] = O') := ⟨_, show _ = _ from rfl⟩
      clear hbw ho
      go_wp2_with (at_builtin; refine wp_push3 rfl _ _ 31 rfl s1 38 i0 Tryd.underlying31 hi hz0 hz1 hz2 _ O1 rfl hown2 pa pn hop _ rfl rfl O2 HO2 (by omega) hby ?_)
      rintro v3 y3 hown3 hb3
      obtain ⟨HB3⟩ : Nonempty (Hid (Below w1.heap.size w1 y3)) := ⟨HB2y.out.trans (by rw [hs1.out]; exact hb3)⟩
      clear b0 b1 t1 t0 hb3 hown2
      obtain ⟨hbw, ho, b0, b1, t1, t0⟩ := HA.out y3 HB3.out
      have hby3 : s1 ≤ y3.heap.size := by rw [← hs1.out]; exact HB3.out.size
      have hO2 : O2.length ≤ 1000001 := by rw [← HO2.out]; simp; omega
      obtain ⟨O3, HO3⟩ : ∃ O', Hid (O2 ++ L.drop 0 = O') := ⟨_, show _ = _ from rfl⟩
      clear hbw ho
      go_wp2_with (at_builtin; refine wp_addAll3 rfl _ _ 31 rfl s1 38 i0 Tryd.underlying31 hi hz0 hz1 hz2 _ O2 rfl hown3 _ (L.drop 0) _ _ rfl (by simp [hLn]) (.inl ⟨rfl, rfl⟩) (by rw [hLn]; exact ents_nil _ _) O3 HO3 (by simp [hLn]; try omega) hby3 ?_)
      rintro v4 y4 hown4 hb4
      obtain ⟨HB4⟩ : Nonempty (Hid (Below w1.heap.size w1 y4)) := ⟨HB3.out.trans (by rw [hs1.out]; exact hb4)⟩
      clear b0 b1 t1 t0 hb4 hown3
      obtain ⟨hbw, ho, b0, b1, t1, t0⟩ := HA.out y4 HB4.out
      obtain ⟨q6', c6, rfl, -, -, -⟩ := own_ents hown4
      have tz := (rtab_cells ho).2.2
      obtain ⟨HF⟩ : Nonempty (Hid (∃ G', _)) := ⟨rtab_new HT.out.2.2 hrG hbw (own_less hown4 (by rw [← hs1.out]; exact HI.out.1.size))⟩
      have hLL : O3 = L' := by rw [← HO3.out, ← HO2.out, ← HO1.out, ← HL2.out, HP.out.2]; simp [hLn]
      subst hLL
      clear hown4 hbw ho
      go_wp2_with fail
      go_ret
      exact ⟨rfl, HF.out⟩
end Go.Proofs.YthehpnhjfnenoabDoor
