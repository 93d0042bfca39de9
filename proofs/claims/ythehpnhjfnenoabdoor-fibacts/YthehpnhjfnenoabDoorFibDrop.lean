/-
  package fib's Drop.
-/
import Derived.Test.YthehpnhjfnenoabDoorFibPut
namespace Go.Proofs.YthehpnhjfnenoabDoor
open Go.RowKit

set_option linter.unusedVariables false in
set_option linter.unusedSimpArgs false in
set_option maxRecDepth 100000 in
set_option maxHeartbeats 2000000 in
theorem drop_any (tb : Nat) (L : List Ent) (mo pa pn : Int) (F : List Nat) (E : Nat → Addr) (w : World) (h : IsTab w tb L mo F) (hE : FibErrs w E) (hF : ∀ b ∈ F, 12 ≤ b) (hw : 12 ≤ w.heap.size) :
    Calls Tryd.prog 22 #[.pointer (some ⟨tb, 0, none⟩), .agg #[.int .i64 pa, .int .i64 pn]] w (PutPost mo F tb (ev E (dropC L pa pn)) (dropS L pa pn) w) := by
  have hba := below_alloc w (.cells #[.int .i64 pa, .int .i64 pn] 36)
  obtain ⟨a0, a1⟩ := box_at w (.int .i64 pa) (.int .i64 pn) 36
  obtain ⟨HC⟩ : Nonempty (Hid (Calls _ _ _ _ _)) := ⟨check_any pa pn _ _ _ _ (hE.below hba).ip⟩
  rw [chk_ev] at HC
  obtain ⟨HT⟩ : Nonempty (Hid (IsTab w tb L mo F ∧ FibErrs w E)) := ⟨⟨h, hE⟩⟩
  obtain ⟨sz, hsz⟩ : ∃ b, Hid (w.heap.size = b) := ⟨_, show _ = _ from rfl⟩
  obtain ⟨W, hW⟩ : ∃ X, Hid (w.alloc (.cells #[.int .i64 pa, .int .i64 pn] 36) = X) := ⟨_, show _ = _ from rfl⟩
  rw [show w.alloc (.cells #[.int .i64 pa, .int .i64 pn] 36) = W from hW.out] at hba HC a0 a1
  rw [show w.heap.size = sz from hsz.out] at a0 a1 hw
  clear h hE
  obtain ⟨res, Hres⟩ : ∃ v, Hid (ev E (dropC L pa pn) = v) := ⟨_, show _ = _ from rfl⟩
  obtain ⟨L', HL'⟩ : ∃ v, Hid (dropS L pa pn = v) := ⟨_, show _ = _ from rfl⟩
  rw [show ev E (dropC L pa pn) = res from Hres.out, show dropS L pa pn = L' from HL'.out]
  go_enter Tryd.func22, Tryd.ntmps22
  go_upto_region 1 with fail
  rw [show w.alloc (.cells #[.int .i64 pa, .int .i64 pn] 36) = W from hW.out, show w.heap.size = sz from hsz.out]
  cases hr : rt pa pn with
  | false =>
    obtain ⟨k, hk⟩ : ∃ k, chkC pa pn = k + 1 := ⟨chkC pa pn - 1, by have := chkC_ne hr; omega⟩
    have e1 : dropC L pa pn = k + 1 := by unfold dropC; rw [hr, if_neg (by simp), hk]
    have e2 : L = L' := by rw [← HL'.out]; unfold dropS; rw [e1, if_neg (by omega)]
    subst e2
    have e3 : ev E (k + 1) = res := by rw [← Hres.out, e1]
    rw [hk, e3] at HC
    simp only [ev] at e3
    subst e3
    clear e1 hk hr
    go_wp2_with fail
    refine HC.out.mono ?_
    clear HC
    rintro e w1 ⟨rfl, hb1⟩
    have hb2 := hba.trans (hb1.mono hba.size)
    clear hb1
    go_wp2_with fail
    go_ret
    exact put_same HT.out.1 hb2
  | true =>
    rw [chkC_rt pa pn hr] at HC
    simp only [ev] at HC
    go_wp2_with fail
    refine HC.out.mono ?_
    clear HC
    rintro e w1 ⟨rfl, hb1⟩
    have hb2 := hba.trans (hb1.mono hba.size)
    have b0 := cell_kept hb1 a0
    have b1 := cell_kept hb1 a1
    clear hb1 a0 a1
    obtain ⟨x, hx⟩ : ∃ x, Hid (hasL L (pa, pn) = x) := ⟨_, show _ = _ from rfl⟩
    obtain ⟨HC⟩ : Nonempty (Hid (Calls _ _ _ _ _)) := ⟨thas_any tb L mo pa pn F w1 (HT.out.1.below hb2) hr x hx⟩
    go_wp2_with fail
    refine HC.out.mono ?_
    clear HC
    rintro e w2 ⟨rfl, hb3⟩
    have hb4 := hb2.trans (hb3.mono hb2.size)
    have c0 := cell_kept hb3 b0
    have c1 := cell_kept hb3 b1
    clear hb2 hb3 b0 b1 hba
    have hsz2 : sz < w2.heap.size := cell_lt' c0
    obtain ⟨T, hT, hTL, hTF⟩ := HT.out.1.below hb4
    have hfar : sz ∉ tb :: T.blocks := by rw [hTF, ← hsz.out]; exact fun hm => by have := HT.out.1.lt _ hm; omega
    have hmo := hT.m1
    have hmo0 := hT.m0
    have hlen := hT.le
    rw [hTL] at hlen
    obtain ⟨HX⟩ : Nonempty (Hid (Tab w2 tb T mo ∧ T.ents = L ∧ tb :: T.blocks = F ∧ sz ∉ tb :: T.blocks)) := ⟨⟨hT, hTL, hTF, hfar⟩⟩
    have hgone := (HT.out.2.below hb4).gone
    clear hT hTL hTF hfar
    cases x with
    | false =>
      have e1 : dropC L pa pn = 5 := by unfold dropC; rw [hr, if_pos rfl, if_neg (by rw [hx.out]; simp)]
      have e2 : L = L' := by rw [← HL'.out]; unfold dropS; rw [e1, if_neg (by omega)]
      subst e2
      have e3 : ev E 5 = res := by rw [← Hres.out, e1]
      simp only [ev] at e3
      subst e3
      clear e1
      go_wp2_with fail
      go_ret
      exact put_same HT.out.1 hb4
    | true =>
      have e1 : dropC L pa pn = 0 := by unfold dropC; rw [hr, if_pos rfl, if_pos hx.out]
      have e2 : dropL L (pa, pn) = L' := by rw [← HL'.out]; unfold dropS; rw [e1, if_pos rfl]
      have e3 : ev E 0 = res := by rw [← Hres.out, e1]
      simp only [ev] at e3
      subst e3
      obtain ⟨HL2⟩ : Nonempty (Hid (dropL L (pa, pn) = L' ∧ ((dropL L (pa, pn)).length : Int) = (L.length : Int) - 1 ∧ hasL L (pa, pn) = true)) := ⟨⟨e2, by have := drop_length HT.out.1.srt hx.out; omega, hx.out⟩⟩
      have hpos : 0 < (L.length : Int) := by have := HL2.out.2.1; omega
      clear e1 e2 hgone
      go_wp2_with fail
      obtain ⟨kp, hkp⟩ := FT.ptr_pointer T
      obtain ⟨t0, -, -⟩ := tab_cells HX.out.1.obj
      obtain ⟨HC⟩ : Nonempty (Hid (Calls _ _ _ _ _)) := ⟨without_any 32 T 0 0 pa pn w2.drew rfl rt_00 HX.out.1.ok (in_drew HX.out.1.inn) (List.nodup_cons.1 HX.out.1.nd).2 hr (has_00 (rt_isA hr)) (rt_len hr).1 (by rw [HX.out.2.1]; exact HL2.out.2.2)⟩
      rw [hkp] at HC t0
      obtain ⟨HK⟩ : Nonempty (Hid (T.ptr = .pointer kp)) := ⟨hkp⟩
      clear hkp
      refine wp_region_noPanic ?_
      refine wp_region_held_drew (S := (fun w' => w'.cell? ⟨sz, 0, none⟩ = some (.int .i64 pa) ∧ w'.cell? ⟨sz, 1, none⟩ = some (.int .i64 pn))) (by kernel_rfl) ?_ (fun hHeld => ?_)
      · exact ⟨c0, c1⟩
      refine wpAnyH_take (i := 0) (v := ?_) rfl (by kernel_rfl) (by kernel_rfl) (by kernel_rfl) (fun _ _ _ h => h) (Or.inl ⟨by rfl, ?_⟩) (by assumption) ?_
      rotate_left
      · (intro w hSw; (try dsimp only at hSw); go_simp; try (with_reducible rfl))
      try simp only [Act.put, List.setIfInBounds_toArray, List.set_cons_zero, List.set_cons_succ, List.getElem_toArray, List.getElem_cons_zero, List.getElem_cons_succ]
      refine wpAnyH_take (i := 1) (v := ?_) rfl (by kernel_rfl) (by kernel_rfl) (by kernel_rfl) (fun _ _ _ h => h) (Or.inl ⟨by rfl, ?_⟩) (by assumption) ?_
      rotate_left
      · (intro w hSw; (try dsimp only at hSw); go_simp; try (with_reducible rfl))
      try simp only [Act.put, List.setIfInBounds_toArray, List.set_cons_zero, List.set_cons_succ, List.getElem_toArray, List.getElem_cons_zero, List.getElem_cons_succ]
      refine wpAnyH_take (i := 2) (v := ?_) rfl (by kernel_rfl) (by kernel_rfl) (by kernel_rfl) (fun _ _ _ h => h) (Or.inl ⟨by rfl, ?_⟩) (by assumption) ?_
      rotate_left
      · (intro w hSw; (try dsimp only at hSw); go_simp; try (with_reducible rfl))
      try simp only [Act.put, List.setIfInBounds_toArray, List.set_cons_zero, List.set_cons_succ, List.getElem_toArray, List.getElem_cons_zero, List.getElem_cons_succ]
      refine wpAnyH_take (i := 3) (v := ?_) rfl (by kernel_rfl) (by kernel_rfl) (by kernel_rfl) (fun _ _ _ h => h) (Or.inl ⟨by rfl, ?_⟩) (by assumption) ?_
      rotate_left
      · (intro w hSw; (try dsimp only at hSw); go_simp; try (with_reducible rfl))
      try simp only [Act.put, List.setIfInBounds_toArray, List.set_cons_zero, List.set_cons_succ, List.getElem_toArray, List.getElem_cons_zero, List.getElem_cons_succ]
      refine wpAnyH_take (i := 5) (v := ?_) rfl (by kernel_rfl) (by kernel_rfl) (by kernel_rfl) (fun _ _ _ h => h) (Or.inl ⟨by rfl, ?_⟩) (by assumption) ?_
      rotate_left
      · (intro w hSw; (try dsimp only at hSw); go_simp; try (with_reducible rfl))
      try simp only [Act.put, List.setIfInBounds_toArray, List.set_cons_zero, List.set_cons_succ, List.getElem_toArray, List.getElem_cons_zero, List.getElem_cons_succ]
      refine wpAnyH_ready (rs := [4]) (by kernel_rfl) (by simp) ?_
      refine AllReadyH.cons rfl (fun K hK => ?_) AllReadyH.nil
      go_simp
      refine hK.out _ _ ?_ (fun hHeld => ?_)
      · exact hHeld
      clear hK K
      try simp only [Act.put, List.setIfInBounds_toArray, List.set_cons_zero, List.set_cons_succ, List.getElem_toArray, List.getElem_cons_zero, List.getElem_cons_succ]
      refine wpAnyH_ready (rs := [6]) (by kernel_rfl) (by simp) ?_
      refine AllReadyH.cons rfl (fun K hK => ?_) AllReadyH.nil
      go_simp
      refine HC.out.mono ?_
      clear HC
      rintro z w5 ⟨T', rfl, hok', hin', hnd', hs', hp', hk'⟩
      have hbox : sz ∉ T.blocks := fun hm => HX.out.2.2.2 (by simp [hm])
      have hobj : w2.drew.heap[tb]? = some (tabObj T.ptr mo T.ents.length) := HX.out.1.obj
      have hobj5 := hk'.heap hobj (List.nodup_cons.1 HX.out.1.nd).1
      have hset := (tab_set hobj HX.out.1.nd hin' hnd' hs' hk').1
      have hfz := tab_frozen hobj5
      have hfz2 := tab_frozen hset
      have hcl := (tab_cells hobj5).1
      have hcl2 := (tab_cells hset).2.2
      rw [show T.ptr = .pointer kp from HK.out] at hcl
      obtain ⟨HE⟩ : Nonempty (Hid (∃ F', _)) := ⟨tab_drop hobj HX.out.1.ok HX.out.1.nd hin' hok' hnd' hs' hk' hp' hmo0 hmo (c' := (L.length : Int) - 1) (by rw [HX.out.2.1]; exact HL2.out.2.1) (by omega)⟩
      obtain ⟨u, hu⟩ := FT.ptr_pointer T'
      rw [hu] at HE hcl2 hfz2 ⊢
      rw [HX.out.2.1] at hcl2
      have hc3 := And.intro (hk'.cell (p := ⟨sz, 0, none⟩) c0 hbox) (hk'.cell (p := ⟨sz, 1, none⟩) c1 hbox)
      clear hin' hnd' hs' hk' hobj hobj5 hbox hu hok' hp' HK t0 c0 c1 hset
      refine hK.out _ _ ?_ (fun hHeld => ?_)
      · exact hc3
      clear hK K
      try simp only [Act.put, List.setIfInBounds_toArray, List.set_cons_zero, List.set_cons_succ, List.getElem_toArray, List.getElem_cons_zero, List.getElem_cons_succ]
      refine wpAnyH_take (i := 7) (v := ?_) rfl (by kernel_rfl) (by kernel_rfl) (by kernel_rfl) (fun _ _ _ h => h) (Or.inl ⟨by rfl, ?_⟩) (by assumption) ?_
      rotate_left
      · (intro w hSw; (try dsimp only at hSw); go_simp; try (with_reducible rfl))
      try simp only [Act.put, List.setIfInBounds_toArray, List.set_cons_zero, List.set_cons_succ, List.getElem_toArray, List.getElem_cons_zero, List.getElem_cons_succ]
      refine wpAnyH_take (i := 8) (v := ?_) rfl (by kernel_rfl) (by kernel_rfl) (by kernel_rfl) (fun _ _ _ h => h) (Or.inl ⟨by rfl, ?_⟩) (by assumption) ?_
      rotate_left
      · (intro w hSw; (try dsimp only at hSw); go_simp; try (with_reducible rfl))
      try simp only [Act.put, List.setIfInBounds_toArray, List.set_cons_zero, List.set_cons_succ, List.getElem_toArray, List.getElem_cons_zero, List.getElem_cons_succ]
      refine wpAnyH_ready (rs := [9]) (by kernel_rfl) (by simp) ?_
      refine AllReadyH.cons rfl (fun K hK => ?_) AllReadyH.nil
      go_simp
      refine hK.out _ _ ?_ (fun hHeld => ?_)
      · exact ⟨far_cell hHeld.1 (fun e => HX.out.2.2.2 (by simp [e])), far_cell hHeld.2 (fun e => HX.out.2.2.2 (by simp [e]))⟩
      clear hK K
      try simp only [Act.put, List.setIfInBounds_toArray, List.set_cons_zero, List.set_cons_succ, List.getElem_toArray, List.getElem_cons_zero, List.getElem_cons_succ]
      refine wpAnyH_done (by kernel_rfl) ?_ _
      refine NoPanic.normal ?_
      clear hHeld hcl
      go_wp2_with fail
      go_ret
      obtain ⟨F', g1, g2, g3⟩ := HE.out
      refine ⟨rfl, F', ?_, fun b hm => ?_, ?_⟩
      · rw [← HL2.out.1]; rw [HX.out.2.1] at g1; exact g1
      · rcases g2 b hm with hm | hm
        · exact .inl (by rw [← HX.out.2.2.1]; exact hm)
        · exact .inr (Nat.le_trans hb4.size hm)
      · rw [← HX.out.2.2.1]; exact (Kept.of_below hb4).drew.trans g3 (fun b hm => .inl hm)
end Go.Proofs.YthehpnhjfnenoabDoor
