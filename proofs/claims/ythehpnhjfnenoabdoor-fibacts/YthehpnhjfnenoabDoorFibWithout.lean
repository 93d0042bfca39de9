/-
  package fib's without: a tree, and a prefix that it has no more.
-/
import Derived.Test.YthehpnhjfnenoabDoorFibWith
namespace Go.Proofs.YthehpnhjfnenoabDoor
open Go.RowKit

/-- what without hands back. -/
def WithoutPost (base n : Int) (T : FT) (p : Int × Int) (w : World) (r : Ending) (w' : World) : Prop :=
  ∃ T' : FT, r = .returned T'.ptr ∧ T'.Ok base n ∧ T'.In w' ∧ T'.blocks.Nodup ∧ (∀ b ∈ T'.blocks, b ∈ T.blocks ∨ w.heap.size ≤ b) ∧ Drop1 T T' p ∧ Kept T.blocks w w'
/-- behind the first test: a node, without the prefix below it. -/
structure MidD (w W : World) (T N : FT) (base n : Int) (p : Int × Int) : Prop where
  ok : N.Ok base n
  inn : N.In W
  nd : N.blocks.Nodup
  sub : ∀ c ∈ N.blocks, c ∈ T.blocks ∨ w.heap.size ≤ c
  ents : Drop1 T N p
  kept : Kept T.blocks w W
theorem MidD.all {w W : World} {T N : FT} {base n : Int} {p : Int × Int} (m : MidD w W T N base n p) : WithoutPost base n T p w (.returned N.ptr) W :=
  ⟨N, rfl, m.ok, m.inn, m.nd, m.sub, m.ents, m.kept⟩
theorem MidD.none {w W : World} {T : FT} {base n : Int} {p : Int × Int} {b : Nat} {e : Ent} (m : MidD w W T (.node b false e .nil .nil) base n p) : WithoutPost base n T p w (.returned (.pointer none)) W :=
  ⟨.nil, rfl, trivial, trivial, List.nodup_nil, fun _ h => (by cases h), drop_shut m.ents rfl, m.kept⟩
theorem box2_in {w : World} {T : FT} (hin : T.In w) (x y : Value) (t : TypeId) : T.In (w.alloc (.cells #[x, y] t)) ∧ (w.alloc (.cells #[x, y] t)).cell? ⟨w.heap.size, 0, none⟩ = some x ∧ (w.alloc (.cells #[x, y] t)).cell? ⟨w.heap.size, 1, none⟩ = some y ∧ w.heap.size ∉ T.blocks := by
  refine ⟨in_below (below_alloc _ _) hin, ?_, ?_, fun h => by have := in_lt T hin _ h; omega⟩ <;> (rw [World.cell?_alloc_at _ _ _ _ rfl]; rfl)

theorem kids_none (w : World) : Sem.run Tryd.prog (Op.equalIn 10000 101 (.agg #[.pointer none, .pointer none]) (.agg #[.pointer none, .pointer none])) w = .ok true w := by kernel_rfl
theorem kids_left (a : Addr) (q : Option Addr) (w : World) : Sem.run Tryd.prog (Op.equalIn 10000 101 (.agg #[.pointer (some a), .pointer q]) (.agg #[.pointer none, .pointer none])) w = .ok false w := by kernel_rfl
theorem kids_right (a : Addr) (w : World) : Sem.run Tryd.prog (Op.equalIn 10000 101 (.agg #[.pointer none, .pointer (some a)]) (.agg #[.pointer none, .pointer none])) w = .ok false w := by kernel_rfl

set_option linter.unusedVariables false in
set_option linter.unusedSimpArgs false in
set_option maxRecDepth 100000 in
set_option maxHeartbeats 1000000 in
theorem without_any (d : Nat) : ∀ (T : FT) (base n pa pn : Int) (w : World), (32 - n).toNat = d → rt base n = true → T.Ok base n → T.In w → T.blocks.Nodup → rt pa pn = true → hasB base n pa = true → n ≤ pn → hasL T.ents (pa, pn) = true →
    Calls Tryd.prog 48 #[T.ptr, .agg #[.int .i64 pa, .int .i64 pn], .int .i64 n] w (WithoutPost base n T (pa, pn) w) := by
  induction d using Nat.strongRecOn with
  | ind d ih =>
  intro T base n pa pn w hd hr hok hin hnd he hh hle hhas
  obtain ⟨IH⟩ : Nonempty (Hid (∀ m, m < d → _)) := ⟨ih⟩
  clear ih
  cases T with
  | nil => simp [FT.ents, hasL] at hhas
  | node b is e0 l r =>
  obtain ⟨i1, a0, a1, hfar⟩ := box2_in hin (.int .i64 pa) (.int .i64 pn) 36
  have hkw : Kept (FT.node b is e0 l r).blocks w (w.alloc (.cells #[.int .i64 pa, .int .i64 pn] 36)) := Kept.of_below (below_alloc _ _)
  obtain ⟨W, hW⟩ : ∃ X, Hid (w.alloc (.cells #[.int .i64 pa, .int .i64 pn] 36) = X) := ⟨_, show _ = _ from rfl⟩
  rw [show w.alloc (.cells #[.int .i64 pa, .int .i64 pn] 36) = W from hW.out] at i1 a0 a1 hkw
  obtain ⟨sz, hsz⟩ : ∃ b, Hid (w.heap.size = b) := ⟨_, show _ = _ from rfl⟩
  rw [show w.heap.size = sz from hsz.out] at a0 a1 hfar
  obtain ⟨HT⟩ : Nonempty (Hid ((FT.node b is e0 l r).Ok base n ∧ (FT.node b is e0 l r).In W ∧ (FT.node b is e0 l r).blocks.Nodup ∧ hasL (FT.node b is e0 l r).ents (pa, pn) = true ∧ sz ∉ (FT.node b is e0 l r).blocks ∧ Kept (FT.node b is e0 l r).blocks w W)) := ⟨⟨hok, i1, hnd, hhas, hfar, hkw⟩⟩
  clear hok hin hnd hhas i1 hfar hkw
  show Calls Tryd.prog 48 #[.pointer (some ⟨b, 0, none⟩), .agg #[.int .i64 pa, .int .i64 pn], .int .i64 n] w _
  go_enter Tryd.func48, Tryd.ntmps48
  go_upto_region 1 with fail
  rw [show w.alloc (.cells #[.int .i64 pa, .int .i64 pn] 36) = W from hW.out, show w.heap.size = sz from hsz.out]
  go_upto_if 11 with fail
  go_cut [7] from 11 (fun _ w' => ∃ (is' : Bool) (e' : Ent) (l' r' : FT) (X : World), Hid (MidD w X (.node b is e0 l r) (.node b is' e' l' r') base n (pa, pn)) ∧ X = w')
  case first =>
    as_aux_lemma =>
    by_cases hne : n = pn
    · have hne' : (n == pn) = true := by simpa using hne
      obtain ⟨HN⟩ : Nonempty (Hid (n = pn)) := ⟨hne⟩
      clear hne hle
      have hfz := fun k => node_frozen HT.out.2.1.1 k
      obtain ⟨q0, q1, q2, q3, q4, q5⟩ := node_cells HT.out.2.1.1
      go_wp2_with fail
      obtain ⟨HW⟩ : Nonempty (Hid (_ ∧ _)) := ⟨And.intro (store_way (x := false) HT.out.2.1 HT.out.2.2.1 0 0 0) (drop_here (b := b) (b' := b) (z := ((0, 0), 0)) (p := (pa, pn)) hr HT.out.1 he hh HN.out)⟩
      go_meet
      exact ⟨_, _, _, _, _, ⟨HW.out.2.1, HW.out.1.1, HT.out.2.2.1, fun c hc => .inl hc, HW.out.2.2, HT.out.2.2.2.2.2.trans HW.out.1.2 (fun c hc => .inl hc)⟩, rfl⟩
    · have hne' : (n == pn) = false := by simpa using hne
      obtain ⟨HN⟩ : Nonempty (Hid (n ≠ pn)) := ⟨hne⟩
      have hlt : n < 32 := by have := rt_len he; omega
      obtain ⟨HBS⟩ : Nonempty (Hid (b ≠ sz)) := ⟨fun e => HT.out.2.2.2.2.1 (by simp [FT.blocks, e])⟩
      clear hne
      cases hi : hiB base n pa with
      | true =>
        have hk : Hid (bitI base n pa = 1) := by simp [bitI, hi, Hid]
        go_wp2_with fail
        go_quiet ((go_at_call 63; exact Calls.quiet_of_same (bit_any base n pa 1 _ hr hlt hh hk)))
        go_wp2_with fail
        have hbw : Below W.heap.size W (W.drewN nq) := below_drewN (Below.refl _ _) _
        obtain ⟨HI⟩ : Nonempty (Hid ((FT.node b is e0 l r).In (W.drewN nq).drew ∧ Kept (FT.node b is e0 l r).blocks w (W.drewN nq).drew)) := ⟨⟨in_drew (in_below hbw HT.out.2.1), (HT.out.2.2.2.2.2.trans (G := []) (Kept.of_below hbw) (by simp)).drew⟩⟩
        have b0 := cell_kept hbw a0
        have b1 := cell_kept hbw a1
        obtain ⟨kp, hkp⟩ := FT.ptr_pointer r
        obtain ⟨HC⟩ : Nonempty (Hid (Calls _ _ _ _ _)) := ⟨IH.out (32 - (n + 1)).toNat (by omega) r (base + pw (n + 1)) (n + 1) pa pn (W.drewN nq).drew rfl (rt_y hr hlt) HT.out.1.2.2.2 HI.out.1.2.2 (nodup_node.1 HT.out.2.2.1).2.2.2.1 he (hi_has hr hlt hh hi) (by have := HN.out; omega) (has_right hr hlt HT.out.1 HN.out hi HT.out.2.2.2.1)⟩
        rw [hkp] at HC
        have hcell := (node_cells HI.out.1.1).2.1
        rw [hkp] at hcell
        obtain ⟨W2, hW2⟩ : ∃ X, Hid (W.drewN nq = X) := ⟨_, show _ = _ from rfl⟩
        rw [show W.drewN nq = W2 from hW2.out] at HC HI b0 b1 hcell ⊢
        clear hbw a0 a1
        replace hcell : W2.cell? ⟨b, 1, none⟩ = some (.pointer kp) := hcell
        obtain ⟨HK⟩ : Nonempty (Hid (r.ptr = .pointer kp)) := ⟨hkp⟩
        clear hkp
        have hwr : IntKind.i64.wrap (n + 1) = n + 1 := wraps_i64 _ (by have := rt_len hr; omega) (by omega)
        refine wp_region_noPanic ?_
        refine wp_region_held_drew (S := (fun w' => w'.cell? ⟨sz, 0, none⟩ = some (.int .i64 pa) ∧ w'.cell? ⟨sz, 1, none⟩ = some (.int .i64 pn))) (by kernel_rfl) ?_ (fun hHeld => ?_)
        · exact ⟨b0, b1⟩
        refine wpAnyH_take (i := 0) (v := ?_) rfl (by kernel_rfl) (by kernel_rfl) (by kernel_rfl) (fun _ _ _ h => h) (Or.inl ⟨by rfl, ?_⟩) (by assumption) ?_
        rotate_left
        · (intro w hSw; (try dsimp only at hSw); go_simp; try (with_reducible rfl))
        try simp only [Act.put, List.setIfInBounds_toArray, List.set_cons_zero, List.set_cons_succ, List.getElem_toArray, List.getElem_cons_zero, List.getElem_cons_succ]
        refine wpAnyH_take (i := 1) (v := ?_) rfl (by kernel_rfl) (by kernel_rfl) (by kernel_rfl) (fun _ _ _ h => h) (Or.inl ⟨by rfl, ?_⟩) (by assumption) ?_
        rotate_left
        · (intro w hSw; (try dsimp only at hSw); go_simp; try (with_reducible rfl))
        try simp only [Act.put, List.setIfInBounds_toArray, List.set_cons_zero, List.set_cons_succ, List.getElem_toArray, List.getElem_cons_zero, List.getElem_cons_succ]
        refine wpAnyH_take (i := 2) (v := ?_) rfl (by kernel_rfl) (by kernel_rfl) (by kernel_rfl) (fun _ _ _ h => h) (Or.inl ⟨by rfl, ?_⟩) (by assumption) ?_
        rotate_left
        · (intro w hSw; (try dsimp only at hSw); go_simp; try (with_reducible rfl))
        try simp only [Act.put, List.setIfInBounds_toArray, List.set_cons_zero, List.set_cons_succ, List.getElem_toArray, List.getElem_cons_zero, List.getElem_cons_succ]
        refine wpAnyH_take (i := 4) (v := ?_) rfl (by kernel_rfl) (by kernel_rfl) (by kernel_rfl) (fun _ _ _ h => h) (Or.inl ⟨by rfl, ?_⟩) (by assumption) ?_
        rotate_left
        · (intro w hSw; (try dsimp only at hSw); go_simp; try (with_reducible rfl))
        try simp only [Act.put, List.setIfInBounds_toArray, List.set_cons_zero, List.set_cons_succ, List.getElem_toArray, List.getElem_cons_zero, List.getElem_cons_succ]
        refine wpAnyH_take (i := 5) (v := ?_) rfl (by kernel_rfl) (by kernel_rfl) (by kernel_rfl) (fun _ _ _ h => h) (Or.inl ⟨by rfl, ?_⟩) (by assumption) ?_
        rotate_left
        · (intro w hSw; (try dsimp only at hSw); go_simp; try (with_reducible rfl))
        try simp only [Act.put, List.setIfInBounds_toArray, List.set_cons_zero, List.set_cons_succ, List.getElem_toArray, List.getElem_cons_zero, List.getElem_cons_succ]
        refine wpAnyH_take (i := 6) (v := ?_) rfl (by kernel_rfl) (by kernel_rfl) (by kernel_rfl) (fun _ _ _ h => h) (Or.inl ⟨by rfl, ?_⟩) (by assumption) ?_
        rotate_left
        · (intro w hSw; (try dsimp only at hSw); go_simp; try (with_reducible rfl))
        try simp only [Act.put, List.setIfInBounds_toArray, List.set_cons_zero, List.set_cons_succ, List.getElem_toArray, List.getElem_cons_zero, List.getElem_cons_succ]
        refine wpAnyH_ready (rs := [3]) (by kernel_rfl) (by simp) ?_
        refine AllReadyH.cons rfl (fun K hK => ?_) AllReadyH.nil
        go_simp
        refine hK.out _ _ ?_ (fun hHeld => ?_)
        · exact hHeld
        clear hK K
        try simp only [Act.put, List.setIfInBounds_toArray, List.set_cons_zero, List.set_cons_succ, List.getElem_toArray, List.getElem_cons_zero, List.getElem_cons_succ]
        refine wpAnyH_ready (rs := [7]) (by kernel_rfl) (by simp) ?_
        refine AllReadyH.cons rfl (fun K hK => ?_) AllReadyH.nil
        go_simp
        refine HC.out.mono ?_
        clear HC
        rintro z w1 ⟨r', rfl, hok', hin', hnd', hs', hp', hk'⟩
        obtain ⟨n1, n2, n3, n4, n5⟩ := nodup_node.1 HT.out.2.2.1
        have hbox : sz ∉ r.blocks := fun h => HT.out.2.2.2.2.1 (by simp [FT.blocks, h])
        have hnode := hk'.heap HI.out.1.1 n2
        have hfz := node_frozen hnode 1
        have hcl := (node_cells hnode).2.1
        rw [show r.ptr = .pointer kp from HK.out] at hcl
        obtain ⟨HE⟩ : Nonempty (Hid (_ ∧ _)) := ⟨And.intro (store_right HI.out.1 HT.out.2.2.1 hin' hnd' hs' hk') (drop_right (b := b) (b' := b) (p := (pa, pn)) hr hlt HT.out.1 HN.out hi hok' hp')⟩
        obtain ⟨u, hu⟩ := FT.ptr_pointer r'
        rw [hu] at HE ⊢
        have hc3 := And.intro (hk'.cell (p := ⟨sz, 0, none⟩) b0 hbox) (hk'.cell (p := ⟨sz, 1, none⟩) b1 hbox)
        clear hin' hnd' hs' hk' hnode n1 n2 n3 n4 n5 hbox hu hok' hp' HK hcell b0 b1
        refine hK.out _ _ ?_ (fun hHeld => ?_)
        · exact hc3
        clear hK K
        try simp only [Act.put, List.setIfInBounds_toArray, List.set_cons_zero, List.set_cons_succ, List.getElem_toArray, List.getElem_cons_zero, List.getElem_cons_succ]
        refine wpAnyH_take (i := 8) (v := ?_) rfl (by kernel_rfl) (by kernel_rfl) (by kernel_rfl) (fun _ _ _ h => h) (Or.inl ⟨by rfl, ?_⟩) (by assumption) ?_
        rotate_left
        · (intro w hSw; (try dsimp only at hSw); go_simp; try (with_reducible rfl))
        try simp only [Act.put, List.setIfInBounds_toArray, List.set_cons_zero, List.set_cons_succ, List.getElem_toArray, List.getElem_cons_zero, List.getElem_cons_succ]
        refine wpAnyH_ready (rs := [9]) (by kernel_rfl) (by simp) ?_
        refine AllReadyH.cons rfl (fun K hK => ?_) AllReadyH.nil
        go_simp
        refine hK.out _ _ ?_ (fun hHeld => ?_)
        · exact ⟨far_cell hHeld.1 HBS.out, far_cell hHeld.2 HBS.out⟩
        clear hK K
        try simp only [Act.put, List.setIfInBounds_toArray, List.set_cons_zero, List.set_cons_succ, List.getElem_toArray, List.getElem_cons_zero, List.getElem_cons_succ]
        refine wpAnyH_done (by kernel_rfl) ?_ _
        refine NoPanic.normal ?_
        clear hHeld hwr
        go_wp2_with fail
        go_meet
        refine ⟨_, _, _, _, _, ⟨HE.out.2.1, HE.out.1.1, HE.out.1.2.1, fun c hc => ?_, HE.out.2.2, HI.out.2.trans HE.out.1.2.2.2 (fun c hc => .inl hc)⟩, rfl⟩
        rcases HE.out.1.2.2.1 c hc with h | h
        · exact .inl h
        · exact .inr (Nat.le_trans HI.out.2.size h)
      | false =>
        have hk : Hid (bitI base n pa = 0) := by simp [bitI, hi, Hid]
        go_wp2_with fail
        go_quiet ((go_at_call 63; exact Calls.quiet_of_same (bit_any base n pa 0 _ hr hlt hh hk)))
        go_wp2_with fail
        have hbw : Below W.heap.size W (W.drewN nq) := below_drewN (Below.refl _ _) _
        obtain ⟨HI⟩ : Nonempty (Hid ((FT.node b is e0 l r).In (W.drewN nq).drew ∧ Kept (FT.node b is e0 l r).blocks w (W.drewN nq).drew)) := ⟨⟨in_drew (in_below hbw HT.out.2.1), (HT.out.2.2.2.2.2.trans (G := []) (Kept.of_below hbw) (by simp)).drew⟩⟩
        have b0 := cell_kept hbw a0
        have b1 := cell_kept hbw a1
        obtain ⟨kp, hkp⟩ := FT.ptr_pointer l
        obtain ⟨HC⟩ : Nonempty (Hid (Calls _ _ _ _ _)) := ⟨IH.out (32 - (n + 1)).toNat (by omega) l (base) (n + 1) pa pn (W.drewN nq).drew rfl (rt_x hr hlt) HT.out.1.2.2.1 HI.out.1.2.1 (nodup_node.1 HT.out.2.2.1).2.2.1 he (lo_has hr hlt hh hi) (by have := HN.out; omega) (has_left hr hlt HT.out.1 HN.out hi HT.out.2.2.2.1)⟩
        rw [hkp] at HC
        have hcell := (node_cells HI.out.1.1).1
        rw [hkp] at hcell
        obtain ⟨W2, hW2⟩ : ∃ X, Hid (W.drewN nq = X) := ⟨_, show _ = _ from rfl⟩
        rw [show W.drewN nq = W2 from hW2.out] at HC HI b0 b1 hcell ⊢
        clear hbw a0 a1
        replace hcell : W2.cell? ⟨b, 0, none⟩ = some (.pointer kp) := hcell
        obtain ⟨HK⟩ : Nonempty (Hid (l.ptr = .pointer kp)) := ⟨hkp⟩
        clear hkp
        have hwr : IntKind.i64.wrap (n + 1) = n + 1 := wraps_i64 _ (by have := rt_len hr; omega) (by omega)
        refine wp_region_noPanic ?_
        refine wp_region_held_drew (S := (fun w' => w'.cell? ⟨sz, 0, none⟩ = some (.int .i64 pa) ∧ w'.cell? ⟨sz, 1, none⟩ = some (.int .i64 pn))) (by kernel_rfl) ?_ (fun hHeld => ?_)
        · exact ⟨b0, b1⟩
        refine wpAnyH_take (i := 0) (v := ?_) rfl (by kernel_rfl) (by kernel_rfl) (by kernel_rfl) (fun _ _ _ h => h) (Or.inl ⟨by rfl, ?_⟩) (by assumption) ?_
        rotate_left
        · (intro w hSw; (try dsimp only at hSw); go_simp; try (with_reducible rfl))
        try simp only [Act.put, List.setIfInBounds_toArray, List.set_cons_zero, List.set_cons_succ, List.getElem_toArray, List.getElem_cons_zero, List.getElem_cons_succ]
        refine wpAnyH_take (i := 1) (v := ?_) rfl (by kernel_rfl) (by kernel_rfl) (by kernel_rfl) (fun _ _ _ h => h) (Or.inl ⟨by rfl, ?_⟩) (by assumption) ?_
        rotate_left
        · (intro w hSw; (try dsimp only at hSw); go_simp; try (with_reducible rfl))
        try simp only [Act.put, List.setIfInBounds_toArray, List.set_cons_zero, List.set_cons_succ, List.getElem_toArray, List.getElem_cons_zero, List.getElem_cons_succ]
        refine wpAnyH_take (i := 2) (v := ?_) rfl (by kernel_rfl) (by kernel_rfl) (by kernel_rfl) (fun _ _ _ h => h) (Or.inl ⟨by rfl, ?_⟩) (by assumption) ?_
        rotate_left
        · (intro w hSw; (try dsimp only at hSw); go_simp; try (with_reducible rfl))
        try simp only [Act.put, List.setIfInBounds_toArray, List.set_cons_zero, List.set_cons_succ, List.getElem_toArray, List.getElem_cons_zero, List.getElem_cons_succ]
        refine wpAnyH_take (i := 4) (v := ?_) rfl (by kernel_rfl) (by kernel_rfl) (by kernel_rfl) (fun _ _ _ h => h) (Or.inl ⟨by rfl, ?_⟩) (by assumption) ?_
        rotate_left
        · (intro w hSw; (try dsimp only at hSw); go_simp; try (with_reducible rfl))
        try simp only [Act.put, List.setIfInBounds_toArray, List.set_cons_zero, List.set_cons_succ, List.getElem_toArray, List.getElem_cons_zero, List.getElem_cons_succ]
        refine wpAnyH_take (i := 5) (v := ?_) rfl (by kernel_rfl) (by kernel_rfl) (by kernel_rfl) (fun _ _ _ h => h) (Or.inl ⟨by rfl, ?_⟩) (by assumption) ?_
        rotate_left
        · (intro w hSw; (try dsimp only at hSw); go_simp; try (with_reducible rfl))
        try simp only [Act.put, List.setIfInBounds_toArray, List.set_cons_zero, List.set_cons_succ, List.getElem_toArray, List.getElem_cons_zero, List.getElem_cons_succ]
        refine wpAnyH_take (i := 6) (v := ?_) rfl (by kernel_rfl) (by kernel_rfl) (by kernel_rfl) (fun _ _ _ h => h) (Or.inl ⟨by rfl, ?_⟩) (by assumption) ?_
        rotate_left
        · (intro w hSw; (try dsimp only at hSw); go_simp; try (with_reducible rfl))
        try simp only [Act.put, List.setIfInBounds_toArray, List.set_cons_zero, List.set_cons_succ, List.getElem_toArray, List.getElem_cons_zero, List.getElem_cons_succ]
        refine wpAnyH_ready (rs := [3]) (by kernel_rfl) (by simp) ?_
        refine AllReadyH.cons rfl (fun K hK => ?_) AllReadyH.nil
        go_simp
        refine hK.out _ _ ?_ (fun hHeld => ?_)
        · exact hHeld
        clear hK K
        try simp only [Act.put, List.setIfInBounds_toArray, List.set_cons_zero, List.set_cons_succ, List.getElem_toArray, List.getElem_cons_zero, List.getElem_cons_succ]
        refine wpAnyH_ready (rs := [7]) (by kernel_rfl) (by simp) ?_
        refine AllReadyH.cons rfl (fun K hK => ?_) AllReadyH.nil
        go_simp
        refine HC.out.mono ?_
        clear HC
        rintro z w1 ⟨l', rfl, hok', hin', hnd', hs', hp', hk'⟩
        obtain ⟨n1, n2, n3, n4, n5⟩ := nodup_node.1 HT.out.2.2.1
        have hbox : sz ∉ l.blocks := fun h => HT.out.2.2.2.2.1 (by simp [FT.blocks, h])
        have hnode := hk'.heap HI.out.1.1 n1
        have hfz := node_frozen hnode 0
        have hcl := (node_cells hnode).1
        rw [show l.ptr = .pointer kp from HK.out] at hcl
        obtain ⟨HE⟩ : Nonempty (Hid (_ ∧ _)) := ⟨And.intro (store_left HI.out.1 HT.out.2.2.1 hin' hnd' hs' hk') (drop_left (b := b) (b' := b) (p := (pa, pn)) hr hlt HT.out.1 HN.out hi hok' hp')⟩
        obtain ⟨u, hu⟩ := FT.ptr_pointer l'
        rw [hu] at HE ⊢
        have hc3 := And.intro (hk'.cell (p := ⟨sz, 0, none⟩) b0 hbox) (hk'.cell (p := ⟨sz, 1, none⟩) b1 hbox)
        clear hin' hnd' hs' hk' hnode n1 n2 n3 n4 n5 hbox hu hok' hp' HK hcell b0 b1
        refine hK.out _ _ ?_ (fun hHeld => ?_)
        · exact hc3
        clear hK K
        try simp only [Act.put, List.setIfInBounds_toArray, List.set_cons_zero, List.set_cons_succ, List.getElem_toArray, List.getElem_cons_zero, List.getElem_cons_succ]
        refine wpAnyH_take (i := 8) (v := ?_) rfl (by kernel_rfl) (by kernel_rfl) (by kernel_rfl) (fun _ _ _ h => h) (Or.inl ⟨by rfl, ?_⟩) (by assumption) ?_
        rotate_left
        · (intro w hSw; (try dsimp only at hSw); go_simp; try (with_reducible rfl))
        try simp only [Act.put, List.setIfInBounds_toArray, List.set_cons_zero, List.set_cons_succ, List.getElem_toArray, List.getElem_cons_zero, List.getElem_cons_succ]
        refine wpAnyH_ready (rs := [9]) (by kernel_rfl) (by simp) ?_
        refine AllReadyH.cons rfl (fun K hK => ?_) AllReadyH.nil
        go_simp
        refine hK.out _ _ ?_ (fun hHeld => ?_)
        · exact ⟨far_cell hHeld.1 HBS.out, far_cell hHeld.2 HBS.out⟩
        clear hK K
        try simp only [Act.put, List.setIfInBounds_toArray, List.set_cons_zero, List.set_cons_succ, List.getElem_toArray, List.getElem_cons_zero, List.getElem_cons_succ]
        refine wpAnyH_done (by kernel_rfl) ?_ _
        refine NoPanic.normal ?_
        clear hHeld hwr
        go_wp2_with fail
        go_meet
        refine ⟨_, _, _, _, _, ⟨HE.out.2.1, HE.out.1.1, HE.out.1.2.1, fun c hc => ?_, HE.out.2.2, HI.out.2.trans HE.out.1.2.2.2 (fun c hc => .inl hc)⟩, rfl⟩
        rcases HE.out.1.2.2.1 c hc with h | h
        · exact .inl h
        · exact .inr (Nat.le_trans HI.out.2.size h)
  case rest =>
    as_aux_lemma =>
    obtain ⟨is', e', l', r', X, HM, hX⟩ := hcut
    subst hX
    clear HT IH
    obtain ⟨q0, q1, q2, q3, q4, q5⟩ := node_cells HM.out.inn.1
    have kn := kids_none
    have kl := kids_left
    have kr := kids_right
    cases is' with
    | true =>
      go_wp2_with fail
      go_ret
      exact HM.out.all
    | false =>
      cases l' with
      | nil =>
        cases r' with
        | nil =>
          simp only [FT.ptr] at q0 q1
          go_wp2_with fail
          go_ret
          exact HM.out.none
        | node br isr er lr rr =>
          simp only [FT.ptr] at q0 q1
          go_wp2_with fail
          go_ret
          exact HM.out.all
      | node bl isl el ll rl =>
        obtain ⟨rp, hrp⟩ := FT.ptr_pointer r'
        rw [hrp] at q1
        simp only [FT.ptr] at q0
        clear hrp
        go_wp2_with fail
        go_ret
        exact HM.out.all
end Go.Proofs.YthehpnhjfnenoabDoor
