/-
  package fib's Put and Drop.
-/
import Derived.Test.YthehpnhjfnenoabDoorFibFind
namespace Go.Proofs.YthehpnhjfnenoabDoor
open Go.RowKit

/-- Put's answer, as the number of an error; the entries behind it. -/
def putC (L : List Ent) (mo pa pn : Int) : Nat := if rt pa pn = true then (if hasL L (pa, pn) = false ∧ mo ≤ (L.length : Int) then 7 else 0) else chkC pa pn
def putS (L : List Ent) (mo pa pn hop : Int) : List Ent := if putC L mo pa pn = 0 then putL L ((pa, pn), hop) else L
def dropC (L : List Ent) (pa pn : Int) : Nat := if rt pa pn = true then (if hasL L (pa, pn) = true then 0 else 5) else chkC pa pn
def dropS (L : List Ent) (pa pn : Int) : List Ent := if dropC L pa pn = 0 then dropL L (pa, pn) else L
theorem chkC_ne {a n : Int} (h : rt a n = false) : chkC a n ≠ 0 := by
  unfold chkC
  split
  · split
    · rename_i h1 h2
      rw [(rt_iff a n).2 ⟨(isA_iff a).1 h1.1, (isL_iff n).1 h1.2, h2⟩] at h
      cases h
    · simp
  · simp
theorem tab_set {W w1 : World} {tb : Nat} {T T' : FT} {mo c : Int} (hobj : W.heap[tb]? = some (tabObj T.ptr mo c)) (hnd : (tb :: T.blocks).Nodup) (hin' : T'.In w1) (hnd' : T'.blocks.Nodup) (hs' : ∀ b ∈ T'.blocks, b ∈ T.blocks ∨ W.heap.size ≤ b) (hk' : Kept T.blocks W w1) :
    (w1.setCell ⟨tb, 0, none⟩ T'.ptr).heap[tb]? = some (tabObj T'.ptr mo c) ∧ T'.In (w1.setCell ⟨tb, 0, none⟩ T'.ptr) ∧ (tb :: T'.blocks).Nodup ∧ (∀ b ∈ tb :: T'.blocks, b ∈ tb :: T.blocks ∨ W.heap.size ≤ b) ∧ Kept (tb :: T.blocks) W (w1.setCell ⟨tb, 0, none⟩ T'.ptr) := by
  obtain ⟨n1, n2⟩ := List.nodup_cons.1 hnd
  have hb : tb < W.heap.size := (Array.getElem?_eq_some_iff.1 hobj).1
  have hn' : tb ∉ T'.blocks := fun h => by rcases hs' tb h with h | h; exact n1 h; omega
  refine ⟨node_set (hk'.heap hobj n1) 0 _, in_same T' (fun c hc => ?_) hin', List.nodup_cons.2 ⟨hn', hnd'⟩, fun b hm => ?_, (hk'.mono fun c hc => .inl (by simp [hc])).setCell (.inl (by simp)) _⟩
  · have hne : c ≠ tb := fun e => hn' (e ▸ hc)
    exact heap_far _ _ _ _ _ hne
  · rcases List.mem_cons.1 hm with rfl | hm
    · exact .inl (by simp)
    · rcases hs' b hm with h | h
      · exact .inl (by simp [h])
      · exact .inr h
/-- the table behind Put. -/
theorem tab_put {W w1 : World} {tb : Nat} {T T' : FT} {mo c : Int} {e : Ent} (hobj : W.heap[tb]? = some (tabObj T.ptr mo c)) (hok : T.Ok 0 0) (hnd : (tb :: T.blocks).Nodup) (hin' : T'.In w1) (hok' : T'.Ok 0 0) (hnd' : T'.blocks.Nodup) (hs' : ∀ b ∈ T'.blocks, b ∈ T.blocks ∨ W.heap.size ≤ b) (hk' : Kept T.blocks W w1) (hp : Put1 T T' e) (h0 : 0 ≤ mo) (h1 : mo ≤ 60) (hc : ((putL T.ents e).length : Int) = c) (hle : c ≤ mo) :
    ∃ F', IsTab (w1.setCell ⟨tb, 0, none⟩ T'.ptr) tb (putL T.ents e) mo F' ∧ (∀ b ∈ F', b ∈ tb :: T.blocks ∨ W.heap.size ≤ b) ∧ Kept (tb :: T.blocks) W (w1.setCell ⟨tb, 0, none⟩ T'.ptr) := by
  obtain ⟨a1, a2, a3, a4, a5⟩ := tab_set hobj hnd hin' hnd' hs' hk'
  have he := put_ents rt_00 hok hok' hp
  refine ⟨tb :: T'.blocks, ⟨T', ⟨?_, a2, hok', a3, h0, h1, ?_⟩, he, rfl⟩, a4, a5⟩
  · rw [a1, he, hc]
  · rw [he, hc]; exact hle
theorem tab_drop {W w1 : World} {tb : Nat} {T T' : FT} {mo c c' : Int} {p : Int × Int} (hobj : W.heap[tb]? = some (tabObj T.ptr mo c)) (hok : T.Ok 0 0) (hnd : (tb :: T.blocks).Nodup) (hin' : T'.In w1) (hok' : T'.Ok 0 0) (hnd' : T'.blocks.Nodup) (hs' : ∀ b ∈ T'.blocks, b ∈ T.blocks ∨ W.heap.size ≤ b) (hk' : Kept T.blocks W w1) (hp : Drop1 T T' p) (h0 : 0 ≤ mo) (h1 : mo ≤ 60) (hc : ((dropL T.ents p).length : Int) = c') (hle : c' ≤ mo) :
    ∃ F', IsTab ((w1.setCell ⟨tb, 0, none⟩ T'.ptr).setCell ⟨tb, 2, none⟩ (.int .i64 c')) tb (dropL T.ents p) mo F' ∧ (∀ b ∈ F', b ∈ tb :: T.blocks ∨ W.heap.size ≤ b) ∧ Kept (tb :: T.blocks) W ((w1.setCell ⟨tb, 0, none⟩ T'.ptr).setCell ⟨tb, 2, none⟩ (.int .i64 c')) := by
  obtain ⟨a1, a2, a3, a4, a5⟩ := tab_set hobj hnd hin' hnd' hs' hk'
  have he := drop_ents rt_00 hok hok' hp
  refine ⟨tb :: T'.blocks, ⟨T', ⟨?_, in_same T' (fun c hm => ?_) a2, hok', a3, h0, h1, ?_⟩, he, rfl⟩, a4, a5.setCell (.inl (by simp)) _⟩
  · rw [he, hc]; exact node_set a1 2 _
  · have hne : c ≠ tb := fun e => (List.nodup_cons.1 a3).1 (e ▸ hm)
    exact heap_far _ _ _ _ _ hne
  · rw [he, hc]; exact hle
def PutPost (mo : Int) (F : List Nat) (tb : Nat) (v : Value) (L' : List Ent) (w : World) (r : Ending) (w' : World) : Prop :=
  r = .returned v ∧ ∃ F', IsTab w' tb L' mo F' ∧ (∀ b ∈ F', b ∈ F ∨ w.heap.size ≤ b) ∧ Kept F w w'
theorem put_same {L : List Ent} {mo : Int} {F : List Nat} {tb : Nat} {w w' : World} {v : Value} (h : IsTab w tb L mo F) (hb : Below w.heap.size w w') : PutPost mo F tb v L w (.returned v) w' :=
  ⟨rfl, F, h.below hb, fun _ hm => .inl hm, Kept.of_below hb⟩

set_option linter.unusedVariables false in
set_option linter.unusedSimpArgs false in
set_option maxRecDepth 100000 in
set_option maxHeartbeats 2000000 in
theorem put_any (tb : Nat) (L : List Ent) (mo pa pn hop : Int) (F : List Nat) (E : Nat → Addr) (w : World) (h : IsTab w tb L mo F) (hE : FibErrs w E) (hF : ∀ b ∈ F, 12 ≤ b) (hw : 12 ≤ w.heap.size) :
    Calls Tryd.prog 15 #[.pointer (some ⟨tb, 0, none⟩), .agg #[.int .i64 pa, .int .i64 pn], .int .i64 hop] w (PutPost mo F tb (ev E (putC L mo pa pn)) (putS L mo pa pn hop) w) := by
  have hba := below_alloc w (.cells #[.int .i64 pa, .int .i64 pn] 36)
  obtain ⟨a0, a1⟩ := box_at w (.int .i64 pa) (.int .i64 pn) 36
  obtain ⟨HC⟩ : Nonempty (Hid (Calls _ _ _ _ _)) := ⟨check_any pa pn _ _ _ _ (hE.below hba).ip⟩
  rw [chk_ev] at HC
  obtain ⟨HT⟩ : Nonempty (Hid (IsTab w tb L mo F ∧ FibErrs w E)) := ⟨⟨h, hE⟩⟩
  obtain ⟨sz, hsz⟩ : ∃ b, Hid (w.heap.size = b) := ⟨_, show _ = _ from rfl⟩
  obtain ⟨W, hW⟩ : ∃ X, Hid (w.alloc (.cells #[.int .i64 pa, .int .i64 pn] 36) = X) := ⟨_, show _ = _ from rfl⟩
  rw [show w.alloc (.cells #[.int .i64 pa, .int .i64 pn] 36) = W from hW.out] at hba HC a0 a1
  rw [show w.heap.size = sz from hsz.out] at a0 a1 hw
  clear h hE
  obtain ⟨res, Hres⟩ : ∃ v, Hid (ev E (putC L mo pa pn) = v) := ⟨_, show _ = _ from rfl⟩
  obtain ⟨L', HL'⟩ : ∃ v, Hid (putS L mo pa pn hop = v) := ⟨_, show _ = _ from rfl⟩
  rw [show ev E (putC L mo pa pn) = res from Hres.out, show putS L mo pa pn hop = L' from HL'.out]
  go_enter Tryd.func15, Tryd.ntmps15
  go_upto_region 1 with fail
  rw [show w.alloc (.cells #[.int .i64 pa, .int .i64 pn] 36) = W from hW.out, show w.heap.size = sz from hsz.out]
  cases hr : rt pa pn with
  | false =>
    obtain ⟨k, hk⟩ : ∃ k, chkC pa pn = k + 1 := ⟨chkC pa pn - 1, by have := chkC_ne hr; omega⟩
    have e1 : putC L mo pa pn = k + 1 := by unfold putC; rw [hr, if_neg (by simp), hk]
    have e2 : L = L' := by rw [← HL'.out]; unfold putS; rw [e1, if_neg (by omega)]
    subst e2
    have e3 : ev E (k + 1) = res := by rw [← Hres.out, e1]
    rw [hk, e3] at HC
    simp only [ev] at e3
    subst e3
    clear e1 hk hr
    go_wp2_with fail
    refine HC.out.mono ?_
    clear HC
    rintro e w1 ⟨rfl, hb1⟩
    have hb2 := hba.trans (hb1.mono hba.size)
    clear hb1
    go_wp2_with fail
    go_ret
    exact put_same HT.out.1 hb2
  | true =>
    rw [chkC_rt pa pn hr] at HC
    simp only [ev] at HC
    go_wp2_with fail
    refine HC.out.mono ?_
    clear HC
    rintro e w1 ⟨rfl, hb1⟩
    have hb2 := hba.trans (hb1.mono hba.size)
    have b0 := cell_kept hb1 a0
    have b1 := cell_kept hb1 a1
    clear hb1 a0 a1
    obtain ⟨x, hx⟩ : ∃ x, Hid (hasL L (pa, pn) = x) := ⟨_, show _ = _ from rfl⟩
    obtain ⟨HC⟩ : Nonempty (Hid (Calls _ _ _ _ _)) := ⟨thas_any tb L mo pa pn F w1 (HT.out.1.below hb2) hr x hx⟩
    go_wp2_with fail
    refine HC.out.mono ?_
    clear HC
    rintro e w2 ⟨rfl, hb3⟩
    have hb4 := hb2.trans (hb3.mono hb2.size)
    have c0 := cell_kept hb3 b0
    have c1 := cell_kept hb3 b1
    clear hb2 hb3 b0 b1 hba
    have hsz2 : sz < w2.heap.size := cell_lt' c0
    obtain ⟨T, hT, hTL, hTF⟩ := HT.out.1.below hb4
    have hfar : sz ∉ tb :: T.blocks := by rw [hTF, ← hsz.out]; exact fun hm => by have := HT.out.1.lt _ hm; omega
    obtain ⟨t0, t1, t2⟩ := tab_cells hT.obj
    have tf := tab_frozen hT.obj
    have hmo := hT.m1
    have hmo0 := hT.m0
    have hlen := hT.le
    rw [hTL] at t2 hlen
    obtain ⟨HX⟩ : Nonempty (Hid (Tab w2 tb T mo ∧ T.ents = L ∧ tb :: T.blocks = F ∧ sz ∉ tb :: T.blocks)) := ⟨⟨hT, hTL, hTF, hfar⟩⟩
    have hfull := (HT.out.2.below hb4).full
    clear hT hTL hTF hfar
    cases x with
    | false =>
      by_cases hge : mo ≤ (L.length : Int)
      · have e1 : putC L mo pa pn = 7 := by unfold putC; rw [hr, if_pos rfl, if_pos ⟨hx.out, hge⟩]
        have e2 : L = L' := by rw [← HL'.out]; unfold putS; rw [e1, if_neg (by omega)]
        subst e2
        have e3 : ev E 7 = res := by rw [← Hres.out, e1]
        simp only [ev] at e3
        subst e3
        clear e1
        go_wp2_with fail
        go_quiet (fail)
        go_wp2_with fail
        go_ret
        exact put_same HT.out.1 (below_drewN hb4 _)
      · have hlt : (L.length : Int) < mo := by omega
        have e1 : putC L mo pa pn = 0 := by unfold putC; rw [hr, if_pos rfl, if_neg (fun h => hge h.2)]
        have e2 : putL L ((pa, pn), hop) = L' := by rw [← HL'.out]; unfold putS; rw [e1, if_pos rfl]
        have e3 : ev E 0 = res := by rw [← Hres.out, e1]
        simp only [ev] at e3
        subst e3
        obtain ⟨HL2⟩ : Nonempty (Hid (putL L ((pa, pn), hop) = L' ∧ ((putL L ((pa, pn), hop)).length : Int) = (L.length : Int) + 1)) := ⟨⟨e2, by rw [put_length HT.out.1.srt, hx.out]; simp⟩⟩
        clear e1 e2 hge
        have hwc : IntKind.i64.wrap ((L.length : Int) + 1) = (L.length : Int) + 1 := wraps_i64 _ (by omega) (by omega)
        go_wp2_with fail
        go_quiet (fail)
        go_wp2_with fail
        clear hfull
        obtain ⟨W2, hW2⟩ : ∃ X, Hid ((w2.drewN nq).setCell ⟨tb, 2, none⟩ (.int .i64 ((L.length : Int) + 1)) = X) := ⟨_, show _ = _ from rfl⟩
        obtain ⟨HQ⟩ : Nonempty (Hid (Tab w2 tb T mo ∧ W2.heap[tb]? = some (tabObj T.ptr mo ((L.length : Int) + 1)) ∧ T.In W2 ∧ Kept F w W2)) := ⟨by
          have hT := HX.out.1
          rw [← hW2.out]
          refine ⟨hT, ?_, ?_, ?_⟩
          · have := node_set (w := w2.drewN nq) hT.obj 2 (.int .i64 ((L.length : Int) + 1)); exact this
          · exact in_same T (fun c hc => by have hne : c ≠ tb := (fun e => (List.nodup_cons.1 hT.nd).1 (e ▸ hc)); exact heap_far (w2.drewN nq) tb c 2 _ hne) hT.inn
          · exact (Kept.of_below (below_drewN hb4 nq)).setCell (p := ⟨tb, 2, none⟩) (.inl (by rw [← HX.out.2.2.1]; simp)) _⟩
        have d0 : W2.cell? ⟨sz, 0, none⟩ = some (.int .i64 pa) := by rw [← hW2.out]; exact far_cell (w := w2.drewN nq) c0 (fun e => HX.out.2.2.2 (by simp [e]))
        have d1 : W2.cell? ⟨sz, 1, none⟩ = some (.int .i64 pn) := by rw [← hW2.out]; exact far_cell (w := w2.drewN nq) c1 (fun e => HX.out.2.2.2 (by simp [e]))
        rw [show (w2.drewN nq).setCell ⟨tb, 2, none⟩ (.int .i64 ((L.length : Int) + 1)) = W2 from hW2.out]
        clear c0 c1 t0 t1 t2 tf
        obtain ⟨kp, hkp⟩ := FT.ptr_pointer T
        obtain ⟨t0, -, -⟩ := tab_cells HQ.out.2.1
        obtain ⟨HC⟩ : Nonempty (Hid (Calls _ _ _ _ _)) := ⟨with_any 32 T 0 0 pa pn hop W2.drew rfl rt_00 HQ.out.1.ok (in_drew HQ.out.2.2.1) (List.nodup_cons.1 HQ.out.1.nd).2 hr (has_00 (rt_isA hr)) (rt_len hr).1⟩
        rw [hkp] at HC t0
        obtain ⟨HK⟩ : Nonempty (Hid (T.ptr = .pointer kp)) := ⟨hkp⟩
        clear hkp
        refine wp_region_noPanic ?_
        refine wp_region_held_drew (S := (fun w' => w'.cell? ⟨sz, 0, none⟩ = some (.int .i64 pa) ∧ w'.cell? ⟨sz, 1, none⟩ = some (.int .i64 pn))) (by kernel_rfl) ?_ (fun hHeld => ?_)
        · exact ⟨d0, d1⟩
        refine wpAnyH_take (i := 0) (v := ?_) rfl (by kernel_rfl) (by kernel_rfl) (by kernel_rfl) (fun _ _ _ h => h) (Or.inl ⟨by rfl, ?_⟩) (by assumption) ?_
        rotate_left
        · (intro w hSw; (try dsimp only at hSw); go_simp; try (with_reducible rfl))
        try simp only [Act.put, List.setIfInBounds_toArray, List.set_cons_zero, List.set_cons_succ, List.getElem_toArray, List.getElem_cons_zero, List.getElem_cons_succ]
        refine wpAnyH_take (i := 1) (v := ?_) rfl (by kernel_rfl) (by kernel_rfl) (by kernel_rfl) (fun _ _ _ h => h) (Or.inl ⟨by rfl, ?_⟩) (by assumption) ?_
        rotate_left
        · (intro w hSw; (try dsimp only at hSw); go_simp; try (with_reducible rfl))
        try simp only [Act.put, List.setIfInBounds_toArray, List.set_cons_zero, List.set_cons_succ, List.getElem_toArray, List.getElem_cons_zero, List.getElem_cons_succ]
        refine wpAnyH_take (i := 2) (v := ?_) rfl (by kernel_rfl) (by kernel_rfl) (by kernel_rfl) (fun _ _ _ h => h) (Or.inl ⟨by rfl, ?_⟩) (by assumption) ?_
        rotate_left
        · (intro w hSw; (try dsimp only at hSw); go_simp; try (with_reducible rfl))
        try simp only [Act.put, List.setIfInBounds_toArray, List.set_cons_zero, List.set_cons_succ, List.getElem_toArray, List.getElem_cons_zero, List.getElem_cons_succ]
        refine wpAnyH_take (i := 3) (v := ?_) rfl (by kernel_rfl) (by kernel_rfl) (by kernel_rfl) (fun _ _ _ h => h) (Or.inl ⟨by rfl, ?_⟩) (by assumption) ?_
        rotate_left
        · (intro w hSw; (try dsimp only at hSw); go_simp; try (with_reducible rfl))
        try simp only [Act.put, List.setIfInBounds_toArray, List.set_cons_zero, List.set_cons_succ, List.getElem_toArray, List.getElem_cons_zero, List.getElem_cons_succ]
        refine wpAnyH_take (i := 5) (v := ?_) rfl (by kernel_rfl) (by kernel_rfl) (by kernel_rfl) (fun _ _ _ h => h) (Or.inl ⟨by rfl, ?_⟩) (by assumption) ?_
        rotate_left
        · (intro w hSw; (try dsimp only at hSw); go_simp; try (with_reducible rfl))
        try simp only [Act.put, List.setIfInBounds_toArray, List.set_cons_zero, List.set_cons_succ, List.getElem_toArray, List.getElem_cons_zero, List.getElem_cons_succ]
        refine wpAnyH_take (i := 6) (v := ?_) rfl (by kernel_rfl) (by kernel_rfl) (by kernel_rfl) (fun _ _ _ h => h) (Or.inl ⟨by rfl, ?_⟩) (by assumption) ?_
        rotate_left
        · (intro w hSw; (try dsimp only at hSw); go_simp; try (with_reducible rfl))
        try simp only [Act.put, List.setIfInBounds_toArray, List.set_cons_zero, List.set_cons_succ, List.getElem_toArray, List.getElem_cons_zero, List.getElem_cons_succ]
        refine wpAnyH_take (i := 7) (v := ?_) rfl (by kernel_rfl) (by kernel_rfl) (by kernel_rfl) (fun _ _ _ h => h) (Or.inl ⟨by rfl, ?_⟩) (by assumption) ?_
        rotate_left
        · (intro w hSw; (try dsimp only at hSw); go_simp; try (with_reducible rfl))
        try simp only [Act.put, List.setIfInBounds_toArray, List.set_cons_zero, List.set_cons_succ, List.getElem_toArray, List.getElem_cons_zero, List.getElem_cons_succ]
        refine wpAnyH_ready (rs := [4]) (by kernel_rfl) (by simp) ?_
        refine AllReadyH.cons rfl (fun K hK => ?_) AllReadyH.nil
        go_simp
        refine hK.out _ _ ?_ (fun hHeld => ?_)
        · exact hHeld
        clear hK K
        try simp only [Act.put, List.setIfInBounds_toArray, List.set_cons_zero, List.set_cons_succ, List.getElem_toArray, List.getElem_cons_zero, List.getElem_cons_succ]
        refine wpAnyH_ready (rs := [8]) (by kernel_rfl) (by simp) ?_
        refine AllReadyH.cons rfl (fun K hK => ?_) AllReadyH.nil
        go_simp
        refine HC.out.mono ?_
        clear HC
        rintro z w5 ⟨T', rfl, hok', hin', hnd', hs', hp', hk'⟩
        have hbox : sz ∉ T.blocks := fun hm => HX.out.2.2.2 (by simp [hm])
        have hobj : W2.drew.heap[tb]? = some (tabObj T.ptr mo ((L.length : Int) + 1)) := HQ.out.2.1
        have hobj5 := hk'.heap hobj (List.nodup_cons.1 HQ.out.1.nd).1
        have hfz := tab_frozen hobj5
        have hcl := (tab_cells hobj5).1
        rw [show T.ptr = .pointer kp from HK.out] at hcl
        obtain ⟨HE⟩ : Nonempty (Hid (∃ F', _)) := ⟨tab_put hobj HQ.out.1.ok HQ.out.1.nd hin' hok' hnd' hs' hk' hp' hmo0 hmo (by rw [HX.out.2.1]; exact HL2.out.2) (by omega)⟩
        obtain ⟨u, hu⟩ := FT.ptr_pointer T'
        rw [hu] at HE ⊢
        have hc3 := And.intro (hk'.cell (p := ⟨sz, 0, none⟩) d0 hbox) (hk'.cell (p := ⟨sz, 1, none⟩) d1 hbox)
        clear hin' hnd' hs' hk' hobj hobj5 hbox hu hok' hp' HK t0 d0 d1
        refine hK.out _ _ ?_ (fun hHeld => ?_)
        · exact hc3
        clear hK K
        try simp only [Act.put, List.setIfInBounds_toArray, List.set_cons_zero, List.set_cons_succ, List.getElem_toArray, List.getElem_cons_zero, List.getElem_cons_succ]
        refine wpAnyH_take (i := 9) (v := ?_) rfl (by kernel_rfl) (by kernel_rfl) (by kernel_rfl) (fun _ _ _ h => h) (Or.inl ⟨by rfl, ?_⟩) (by assumption) ?_
        rotate_left
        · (intro w hSw; (try dsimp only at hSw); go_simp; try (with_reducible rfl))
        try simp only [Act.put, List.setIfInBounds_toArray, List.set_cons_zero, List.set_cons_succ, List.getElem_toArray, List.getElem_cons_zero, List.getElem_cons_succ]
        refine wpAnyH_take (i := 10) (v := ?_) rfl (by kernel_rfl) (by kernel_rfl) (by kernel_rfl) (fun _ _ _ h => h) (Or.inl ⟨by rfl, ?_⟩) (by assumption) ?_
        rotate_left
        · (intro w hSw; (try dsimp only at hSw); go_simp; try (with_reducible rfl))
        try simp only [Act.put, List.setIfInBounds_toArray, List.set_cons_zero, List.set_cons_succ, List.getElem_toArray, List.getElem_cons_zero, List.getElem_cons_succ]
        refine wpAnyH_ready (rs := [11]) (by kernel_rfl) (by simp) ?_
        refine AllReadyH.cons rfl (fun K hK => ?_) AllReadyH.nil
        go_simp
        refine hK.out _ _ ?_ (fun hHeld => ?_)
        · exact ⟨far_cell hHeld.1 (fun e => HX.out.2.2.2 (by simp [e])), far_cell hHeld.2 (fun e => HX.out.2.2.2 (by simp [e]))⟩
        clear hK K
        try simp only [Act.put, List.setIfInBounds_toArray, List.set_cons_zero, List.set_cons_succ, List.getElem_toArray, List.getElem_cons_zero, List.getElem_cons_succ]
        refine wpAnyH_done (by kernel_rfl) ?_ _
        refine NoPanic.normal ?_
        clear hHeld
        go_wp2_with fail
        go_ret
        obtain ⟨F', g1, g2, g3⟩ := HE.out
        refine ⟨rfl, F', ?_, fun b hm => ?_, ?_⟩
        · rw [← HL2.out.1, ← HX.out.2.1]; exact g1
        · rcases g2 b hm with hm | hm
          · exact .inl (by rw [← HX.out.2.2.1]; exact hm)
          · exact .inr (Nat.le_trans HQ.out.2.2.2.size hm)
        · rw [← HX.out.2.2.1] at HQ ⊢; exact HQ.out.2.2.2.drew.trans g3 (fun b hm => .inl hm)
    | true =>
      have e1 : putC L mo pa pn = 0 := by unfold putC; rw [hr, if_pos rfl, if_neg (fun h => by have := h.1; rw [hx.out] at this; cases this)]
      have e2 : putL L ((pa, pn), hop) = L' := by rw [← HL'.out]; unfold putS; rw [e1, if_pos rfl]
      have e3 : ev E 0 = res := by rw [← Hres.out, e1]
      simp only [ev] at e3
      subst e3
      obtain ⟨HL2⟩ : Nonempty (Hid (putL L ((pa, pn), hop) = L' ∧ ((putL L ((pa, pn), hop)).length : Int) = (L.length : Int))) := ⟨⟨e2, by rw [put_length HT.out.1.srt, hx.out]; simp⟩⟩
      clear e1 e2 hfull
      go_wp2_with fail
      obtain ⟨W2, hW2⟩ : ∃ X, Hid (w2 = X) := ⟨_, show _ = _ from rfl⟩
      obtain ⟨HQ⟩ : Nonempty (Hid (Tab w2 tb T mo ∧ W2.heap[tb]? = some (tabObj T.ptr mo ((L.length : Int))) ∧ T.In W2 ∧ Kept F w W2)) := ⟨by
        have hT := HX.out.1
        rw [← hW2.out]
        refine ⟨hT, ?_, hT.inn, Kept.of_below hb4⟩
        rw [← HX.out.2.1]; exact hT.obj⟩
      have d0 := c0
      have d1 := c1
      rw [show w2 = W2 from hW2.out] at d0 d1 ⊢
      clear c0 c1 t0 t1 t2 tf
      obtain ⟨kp, hkp⟩ := FT.ptr_pointer T
      obtain ⟨t0, -, -⟩ := tab_cells HQ.out.2.1
      obtain ⟨HC⟩ : Nonempty (Hid (Calls _ _ _ _ _)) := ⟨with_any 32 T 0 0 pa pn hop W2.drew rfl rt_00 HQ.out.1.ok (in_drew HQ.out.2.2.1) (List.nodup_cons.1 HQ.out.1.nd).2 hr (has_00 (rt_isA hr)) (rt_len hr).1⟩
      rw [hkp] at HC t0
      obtain ⟨HK⟩ : Nonempty (Hid (T.ptr = .pointer kp)) := ⟨hkp⟩
      clear hkp
      refine wp_region_noPanic ?_
      refine wp_region_held_drew (S := (fun w' => w'.cell? ⟨sz, 0, none⟩ = some (.int .i64 pa) ∧ w'.cell? ⟨sz, 1, none⟩ = some (.int .i64 pn))) (by kernel_rfl) ?_ (fun hHeld => ?_)
      · exact ⟨d0, d1⟩
      refine wpAnyH_take (i := 0) (v := ?_) rfl (by kernel_rfl) (by kernel_rfl) (by kernel_rfl) (fun _ _ _ h => h) (Or.inl ⟨by rfl, ?_⟩) (by assumption) ?_
      rotate_left
      · (intro w hSw; (try dsimp only at hSw); go_simp; try (with_reducible rfl))
      try simp only [Act.put, List.setIfInBounds_toArray, List.set_cons_zero, List.set_cons_succ, List.getElem_toArray, List.getElem_cons_zero, List.getElem_cons_succ]
      refine wpAnyH_take (i := 1) (v := ?_) rfl (by kernel_rfl) (by kernel_rfl) (by kernel_rfl) (fun _ _ _ h => h) (Or.inl ⟨by rfl, ?_⟩) (by assumption) ?_
      rotate_left
      · (intro w hSw; (try dsimp only at hSw); go_simp; try (with_reducible rfl))
      try simp only [Act.put, List.setIfInBounds_toArray, List.set_cons_zero, List.set_cons_succ, List.getElem_toArray, List.getElem_cons_zero, List.getElem_cons_succ]
      refine wpAnyH_take (i := 2) (v := ?_) rfl (by kernel_rfl) (by kernel_rfl) (by kernel_rfl) (fun _ _ _ h => h) (Or.inl ⟨by rfl, ?_⟩) (by assumption) ?_
      rotate_left
      · (intro w hSw; (try dsimp only at hSw); go_simp; try (with_reducible rfl))
      try simp only [Act.put, List.setIfInBounds_toArray, List.set_cons_zero, List.set_cons_succ, List.getElem_toArray, List.getElem_cons_zero, List.getElem_cons_succ]
      refine wpAnyH_take (i := 3) (v := ?_) rfl (by kernel_rfl) (by kernel_rfl) (by kernel_rfl) (fun _ _ _ h => h) (Or.inl ⟨by rfl, ?_⟩) (by assumption) ?_
      rotate_left
      · (intro w hSw; (try dsimp only at hSw); go_simp; try (with_reducible rfl))
      try simp only [Act.put, List.setIfInBounds_toArray, List.set_cons_zero, List.set_cons_succ, List.getElem_toArray, List.getElem_cons_zero, List.getElem_cons_succ]
      refine wpAnyH_take (i := 5) (v := ?_) rfl (by kernel_rfl) (by kernel_rfl) (by kernel_rfl) (fun _ _ _ h => h) (Or.inl ⟨by rfl, ?_⟩) (by assumption) ?_
      rotate_left
      · (intro w hSw; (try dsimp only at hSw); go_simp; try (with_reducible rfl))
      try simp only [Act.put, List.setIfInBounds_toArray, List.set_cons_zero, List.set_cons_succ, List.getElem_toArray, List.getElem_cons_zero, List.getElem_cons_succ]
      refine wpAnyH_take (i := 6) (v := ?_) rfl (by kernel_rfl) (by kernel_rfl) (by kernel_rfl) (fun _ _ _ h => h) (Or.inl ⟨by rfl, ?_⟩) (by assumption) ?_
      rotate_left
      · (intro w hSw; (try dsimp only at hSw); go_simp; try (with_reducible rfl))
      try simp only [Act.put, List.setIfInBounds_toArray, List.set_cons_zero, List.set_cons_succ, List.getElem_toArray, List.getElem_cons_zero, List.getElem_cons_succ]
      refine wpAnyH_take (i := 7) (v := ?_) rfl (by kernel_rfl) (by kernel_rfl) (by kernel_rfl) (fun _ _ _ h => h) (Or.inl ⟨by rfl, ?_⟩) (by assumption) ?_
      rotate_left
      · (intro w hSw; (try dsimp only at hSw); go_simp; try (with_reducible rfl))
      try simp only [Act.put, List.setIfInBounds_toArray, List.set_cons_zero, List.set_cons_succ, List.getElem_toArray, List.getElem_cons_zero, List.getElem_cons_succ]
      refine wpAnyH_ready (rs := [4]) (by kernel_rfl) (by simp) ?_
      refine AllReadyH.cons rfl (fun K hK => ?_) AllReadyH.nil
      go_simp
      refine hK.out _ _ ?_ (fun hHeld => ?_)
      · exact hHeld
      clear hK K
      try simp only [Act.put, List.setIfInBounds_toArray, List.set_cons_zero, List.set_cons_succ, List.getElem_toArray, List.getElem_cons_zero, List.getElem_cons_succ]
      refine wpAnyH_ready (rs := [8]) (by kernel_rfl) (by simp) ?_
      refine AllReadyH.cons rfl (fun K hK => ?_) AllReadyH.nil
      go_simp
      refine HC.out.mono ?_
      clear HC
      rintro z w5 ⟨T', rfl, hok', hin', hnd', hs', hp', hk'⟩
      have hbox : sz ∉ T.blocks := fun hm => HX.out.2.2.2 (by simp [hm])
      have hobj : W2.drew.heap[tb]? = some (tabObj T.ptr mo ((L.length : Int))) := HQ.out.2.1
      have hobj5 := hk'.heap hobj (List.nodup_cons.1 HQ.out.1.nd).1
      have hfz := tab_frozen hobj5
      have hcl := (tab_cells hobj5).1
      rw [show T.ptr = .pointer kp from HK.out] at hcl
      obtain ⟨HE⟩ : Nonempty (Hid (∃ F', _)) := ⟨tab_put hobj HQ.out.1.ok HQ.out.1.nd hin' hok' hnd' hs' hk' hp' hmo0 hmo (by rw [HX.out.2.1]; exact HL2.out.2) (by omega)⟩
      obtain ⟨u, hu⟩ := FT.ptr_pointer T'
      rw [hu] at HE ⊢
      have hc3 := And.intro (hk'.cell (p := ⟨sz, 0, none⟩) d0 hbox) (hk'.cell (p := ⟨sz, 1, none⟩) d1 hbox)
      clear hin' hnd' hs' hk' hobj hobj5 hbox hu hok' hp' HK t0 d0 d1
      refine hK.out _ _ ?_ (fun hHeld => ?_)
      · exact hc3
      clear hK K
      try simp only [Act.put, List.setIfInBounds_toArray, List.set_cons_zero, List.set_cons_succ, List.getElem_toArray, List.getElem_cons_zero, List.getElem_cons_succ]
      refine wpAnyH_take (i := 9) (v := ?_) rfl (by kernel_rfl) (by kernel_rfl) (by kernel_rfl) (fun _ _ _ h => h) (Or.inl ⟨by rfl, ?_⟩) (by assumption) ?_
      rotate_left
      · (intro w hSw; (try dsimp only at hSw); go_simp; try (with_reducible rfl))
      try simp only [Act.put, List.setIfInBounds_toArray, List.set_cons_zero, List.set_cons_succ, List.getElem_toArray, List.getElem_cons_zero, List.getElem_cons_succ]
      refine wpAnyH_take (i := 10) (v := ?_) rfl (by kernel_rfl) (by kernel_rfl) (by kernel_rfl) (fun _ _ _ h => h) (Or.inl ⟨by rfl, ?_⟩) (by assumption) ?_
      rotate_left
      · (intro w hSw; (try dsimp only at hSw); go_simp; try (with_reducible rfl))
      try simp only [Act.put, List.setIfInBounds_toArray, List.set_cons_zero, List.set_cons_succ, List.getElem_toArray, List.getElem_cons_zero, List.getElem_cons_succ]
      refine wpAnyH_ready (rs := [11]) (by kernel_rfl) (by simp) ?_
      refine AllReadyH.cons rfl (fun K hK => ?_) AllReadyH.nil
      go_simp
      refine hK.out _ _ ?_ (fun hHeld => ?_)
      · exact ⟨far_cell hHeld.1 (fun e => HX.out.2.2.2 (by simp [e])), far_cell hHeld.2 (fun e => HX.out.2.2.2 (by simp [e]))⟩
      clear hK K
      try simp only [Act.put, List.setIfInBounds_toArray, List.set_cons_zero, List.set_cons_succ, List.getElem_toArray, List.getElem_cons_zero, List.getElem_cons_succ]
      refine wpAnyH_done (by kernel_rfl) ?_ _
      refine NoPanic.normal ?_
      clear hHeld
      go_wp2_with fail
      go_ret
      obtain ⟨F', g1, g2, g3⟩ := HE.out
      refine ⟨rfl, F', ?_, fun b hm => ?_, ?_⟩
      · rw [← HL2.out.1, ← HX.out.2.1]; exact g1
      · rcases g2 b hm with hm | hm
        · exact .inl (by rw [← HX.out.2.2.1]; exact hm)
        · exact .inr (Nat.le_trans HQ.out.2.2.2.size hm)
      · rw [← HX.out.2.2.1] at HQ ⊢; exact HQ.out.2.2.2.drew.trans g3 (fun b hm => .inl hm)
end Go.Proofs.YthehpnhjfnenoabDoor
