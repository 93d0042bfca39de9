/-
  FibActs: any acts: package fib's table and the document's: the walk.
-/
import Derived.Test.YthehpnhjfnenoabDoorActs1
namespace Go.Proofs.YthehpnhjfnenoabDoor
open Go.RowKit

set_option linter.unusedVariables false in
set_option linter.unusedSimpArgs false in
set_option maxRecDepth 100000 in
set_option maxHeartbeats 4000000 in
theorem fibActs_any (most a : Int) (A : List ActV) (p : Option Addr) (cap : Nat) (E : Nat → Addr) (w : World) (hA : Acts w p A) (hE : ErrsLaid w E) (hw : 12 ≤ w.heap.size) (hAm : A.length ≤ maxLen) :
    Calls Tryd.prog 6 #[.int .i64 most, .slice p A.length cap, .int .i64 a] w fun r w' => r = .returned (.bool true) ∧ Below w.heap.size w w' := by
  obtain ⟨HC⟩ : Nonempty (Hid (Calls _ _ _ _ _)) := ⟨tabled_any E w (errs_fib hE) hw⟩
  obtain ⟨HI⟩ : Nonempty (Hid (In0 w.heap.size E w w)) := ⟨⟨Below.refl _ _, Nat.le_refl _, hw, errs_fib hE⟩⟩
  obtain ⟨HL⟩ : Nonempty (Hid ((∀ w', Below w.heap.size w w' → Acts w' p A) ∧ ∀ w', Below w.heap.size w w' → ErrsLaid w' E)) := ⟨⟨fun w' hb i hi => by
    obtain ⟨b, o, e, c0, c1, c2, c3, c4, hl⟩ := hA i hi
    exact ⟨b, o, e, cell_kept hb c0, cell_kept hb c1, cell_kept hb c2, cell_kept hb c3, cell_kept hb c4, hl.below hb⟩, fun w' hb => hE.below hb⟩⟩
  obtain ⟨B, hB⟩ : ∃ b, Hid (w.heap.size = b) := ⟨_, show _ = _ from rfl⟩
  rw [show w.heap.size = B from hB.out] at HI HC HL hw ⊢
  clear hE hA
  go_enter Tryd.func6, Tryd.ntmps6
  go_wp2_with fail
  refine HC.out.mono ?_
  clear HC
  rintro e w1 ⟨rfl, hb1⟩
  obtain ⟨HI1⟩ : Nonempty (Hid (In0 B E w w1)) := ⟨HI.out.next hb1⟩
  clear HI
  obtain ⟨HC⟩ : Nonempty (Hid (Calls _ _ _ _ _)) := ⟨longActs_any A p cap w1 (HL.out.1 _ hb1) hAm⟩
  go_wp2_with fail
  refine HC.out.mono ?_
  clear HC
  rintro e w1' ⟨x, rfl, hx, hw1⟩
  subst hw1
  obtain ⟨HX⟩ : Nonempty (Hid (x = false → A.length ≤ 80 ∧ ∀ i (h : i < A.length), A[i].l.length ≤ 70)) := ⟨hx⟩
  clear hx
  cases x with
  | true =>
    go_wp2_with fail
    go_ret
    exact ⟨rfl, hb1⟩
  | false =>
  obtain ⟨h80, h70⟩ := HX.out rfl
  obtain ⟨H70⟩ : Nonempty (Hid (∀ i (h : i < A.length), A[i].l.length ≤ 70)) := ⟨h70⟩
  have q0 : (A.length : Int) ≤ 80 := by omega
  clear hb1 h70 HX
  obtain ⟨mo, hmo⟩ : ∃ m, Hid (min (max most 0) 60 = m) := ⟨_, show _ = _ from rfl⟩
  obtain ⟨HC⟩ : Nonempty (Hid (Calls _ _ _ _ _)) := ⟨new_any most mo hmo w1'⟩
  go_wp2_with fail
  refine HC.out.mono ?_
  clear HC
  rintro e w2 ⟨rfl, it, hb2⟩
  obtain ⟨tt, htt⟩ : ∃ b, Hid (w1'.heap.size = b) := ⟨_, show _ = _ from rfl⟩
  obtain ⟨H2⟩ : Nonempty (Hid (In0 B E w w2 ∧ Own B w2 tt [] mo [tt])) := ⟨⟨HI1.out.all hb2, by rw [← htt.out]; exact own_new it HI1.out.size⟩⟩
  rw [show w1'.heap.size = tt from htt.out]
  clear it hb2 HI1
  obtain ⟨HC⟩ : Nonempty (Hid (Calls _ _ _ _ _)) := ⟨rNew_any most mo hmo w2⟩
  go_wp2_with fail
  refine HC.out.mono ?_
  clear HC
  rintro e w3 ⟨rfl, it, hb3⟩
  obtain ⟨rm, hrm⟩ : ∃ b, Hid (w2.heap.size = b) := ⟨_, show _ = _ from rfl⟩
  obtain ⟨H3⟩ : Nonempty (Hid (St0 B E w w3 tt rm [] mo [tt] [rm])) := ⟨by
    have hlt := H2.out.2.1.lt tt (by simp)
    refine ⟨H2.out.1.all hb3, H2.out.2.all hb3, by rw [← hrm.out]; exact it, by rw [← hrm.out]; simpa using H2.out.1.size, ?_⟩
    rw [← hrm.out]; simp; omega⟩
  rw [show w2.heap.size = rm from hrm.out]
  clear it hb3 H2
  go_wp2_with fail
  go_loopw [6, 10, 11, 12, 13, 14, 15] (fun _ i _ _ _ _ _ wr => ∃ (k : Nat) (L : List Ent) (F G : List Nat), i = .int .i64 k ∧ Hid (St0 B E w wr tt rm L mo F G) ∧ k ≤ A.length) (fun _ i _ _ _ _ _ _ => A.length - (intOf i).toNat)
  case atStart => exact ⟨0, [], [tt], [rm], rfl, H3, Nat.zero_le _⟩
  case round =>
    obtain ⟨k, L, F, G, rfl, HK, hkl⟩ := hrel
    clear H3
    by_cases hlt : k < A.length
    · as_aux_lemma =>
      have q3 : (k : Int) < A.length := by omega
      obtain ⟨b, o, rfl, c0, c1, c2, c3, c4, hents⟩ := HL.out.1 _ HK.out.ins.below k hlt
      obtain ⟨act, hact⟩ : ∃ x, Hid (A[k] = x) := ⟨_, show _ = _ from rfl⟩
      have h70 := H70.out k hlt
      rw [show A[k] = act from hact.out] at c0 c1 c2 c3 c4 hents h70
      obtain ⟨HEN⟩ : Nonempty (Hid (Ents wr act.q act.l)) := ⟨hents⟩
      obtain ⟨HS⟩ : Nonempty (Hid (St B E w (wr.alloc (actObj act)) tt rm L L mo F G wr.heap.size (actObj act))) := ⟨HK.out.box _⟩
      obtain ⟨HEA⟩ : Nonempty (Hid (Ents (wr.alloc (actObj act)) act.q act.l)) := ⟨hents.below (below_alloc _ _)⟩
      clear hents
      obtain ⟨bx, hbx⟩ : ∃ x, Hid (wr.heap.size = x) := ⟨_, show _ = _ from rfl⟩
      rw [show wr.heap.size = bx from hbx.out] at HS
      obtain ⟨kind, ka, kn, khop, kq, kcap, kl⟩ := act
      simp only at c0 c1 c2 c3 c4 h70
      go_upto_region 12 with fail
      obtain ⟨X, hX⟩ : ∃ x, Hid (wr.alloc (.cells #[.string kind, .int .i64 ka, .int .i64 kn, .int .i64 khop, .slice kq kl.length kcap] 56) = x) := ⟨_, show _ = _ from rfl⟩
      rw [show wr.alloc (actObj ⟨kind, ka, kn, khop, kq, kcap, kl⟩) = X from hX.out] at HS HEA
      rw [show wr.alloc (.cells #[.string kind, .int .i64 ka, .int .i64 kn, .int .i64 khop, .slice kq kl.length kcap] 56) = X from hX.out, show wr.heap.size = bx from hbx.out]
      clear c0 c1 c2 c3 c4
      obtain ⟨c0, c1, c2, c3, c4⟩ := act_cells HS.out.bo
      simp only at c0 c1 c2 c3 c4
      cases k1 : (kind.toList == [112, 117, 116]) with
      | true =>
        as_aux_lemma =>
        obtain ⟨HD⟩ : Nonempty (Hid (St B E w X.drew tt rm L L mo F G bx (actObj ⟨kind, ka, kn, khop, kq, kcap, kl⟩))) := ⟨HS.out.all (Below.refl _ _).drew⟩
        obtain ⟨HSL⟩ : Nonempty (Hid (Srt L ∧ L.length ≤ 1000000)) := ⟨⟨HD.out.t.1.srt, by have := HD.out.t.1.le; omega⟩⟩
        obtain ⟨HC⟩ : Nonempty (Hid (Calls _ _ _ _ _)) := ⟨put_any tt L mo ka kn khop F E _ HD.out.t.1 HD.out.ins.errs (fun b hb => Nat.le_trans hw (HD.out.t.2 b hb)) (Nat.le_trans hw HD.out.ins.size)⟩
        obtain ⟨cc, hcc⟩ : ∃ c, Hid (putC L mo ka kn = c) := ⟨_, show _ = _ from rfl⟩
        obtain ⟨HLE⟩ : Nonempty (Hid (cc ≤ 9)) := ⟨by rw [← hcc.out]; exact codes_le.1⟩
        rw [show putC L mo ka kn = cc from hcc.out] at HC
        go_wp2_with fail
        refine wp_region_noPanic ?_
        refine wp_region_held_drew (S := (fun w' => w'.cell? ⟨bx, 1, none⟩ = some (.int .i64 ka) ∧ w'.cell? ⟨bx, 2, none⟩ = some (.int .i64 kn) ∧ w'.cell? ⟨bx, 3, none⟩ = some (.int .i64 khop) ∧ w'.cell? ⟨bx, 4, none⟩ = some (.slice kq kl.length kcap))) (by kernel_rfl) ?_ (fun hHeld => ?_)
        · exact (act_cells HD.out.bo).2
        refine wpAnyH_take (i := 0) (v := ?_) rfl (by kernel_rfl) (by kernel_rfl) (by kernel_rfl) (fun _ _ _ h => h) (Or.inl ⟨by rfl, ?_⟩) (by assumption) ?_
        rotate_left
        · (intro w hSw; (try dsimp only at hSw); go_simp; try (with_reducible rfl))
        try simp only [Act.put, List.setIfInBounds_toArray, List.set_cons_zero, List.set_cons_succ, List.getElem_toArray, List.getElem_cons_zero, List.getElem_cons_succ]
        refine wpAnyH_take (i := 1) (v := ?_) rfl (by kernel_rfl) (by kernel_rfl) (by kernel_rfl) (fun _ _ _ h => h) (Or.inl ⟨by rfl, ?_⟩) (by assumption) ?_
        rotate_left
        · (intro w hSw; (try dsimp only at hSw); go_simp; try (with_reducible rfl))
        try simp only [Act.put, List.setIfInBounds_toArray, List.set_cons_zero, List.set_cons_succ, List.getElem_toArray, List.getElem_cons_zero, List.getElem_cons_succ]
        refine wpAnyH_take (i := 2) (v := ?_) rfl (by kernel_rfl) (by kernel_rfl) (by kernel_rfl) (fun _ _ _ h => h) (Or.inl ⟨by rfl, ?_⟩) (by assumption) ?_
        rotate_left
        · (intro w hSw; (try dsimp only at hSw); go_simp; try (with_reducible rfl))
        try simp only [Act.put, List.setIfInBounds_toArray, List.set_cons_zero, List.set_cons_succ, List.getElem_toArray, List.getElem_cons_zero, List.getElem_cons_succ]
        refine wpAnyH_take (i := 3) (v := ?_) rfl (by kernel_rfl) (by kernel_rfl) (by kernel_rfl) (fun _ _ _ h => h) (Or.inl ⟨by rfl, ?_⟩) (by assumption) ?_
        rotate_left
        · (intro w hSw; (try dsimp only at hSw); go_simp; try (with_reducible rfl))
        try simp only [Act.put, List.setIfInBounds_toArray, List.set_cons_zero, List.set_cons_succ, List.getElem_toArray, List.getElem_cons_zero, List.getElem_cons_succ]
        refine wpAnyH_take (i := 4) (v := ?_) rfl (by kernel_rfl) (by kernel_rfl) (by kernel_rfl) (fun _ _ _ h => h) (Or.inl ⟨by rfl, ?_⟩) (by assumption) ?_
        rotate_left
        · (intro w hSw; (try dsimp only at hSw); go_simp; try (with_reducible rfl))
        try simp only [Act.put, List.setIfInBounds_toArray, List.set_cons_zero, List.set_cons_succ, List.getElem_toArray, List.getElem_cons_zero, List.getElem_cons_succ]
        refine wpAnyH_take (i := 6) (v := ?_) rfl (by kernel_rfl) (by kernel_rfl) (by kernel_rfl) (fun _ _ _ h => h) (Or.inl ⟨by rfl, ?_⟩) (by assumption) ?_
        rotate_left
        · (intro w hSw; (try dsimp only at hSw); go_simp; try (with_reducible rfl))
        try simp only [Act.put, List.setIfInBounds_toArray, List.set_cons_zero, List.set_cons_succ, List.getElem_toArray, List.getElem_cons_zero, List.getElem_cons_succ]
        refine wpAnyH_take (i := 7) (v := ?_) rfl (by kernel_rfl) (by kernel_rfl) (by kernel_rfl) (fun _ _ _ h => h) (Or.inl ⟨by rfl, ?_⟩) (by assumption) ?_
        rotate_left
        · (intro w hSw; (try dsimp only at hSw); go_simp; try (with_reducible rfl))
        try simp only [Act.put, List.setIfInBounds_toArray, List.set_cons_zero, List.set_cons_succ, List.getElem_toArray, List.getElem_cons_zero, List.getElem_cons_succ]
        refine wpAnyH_take (i := 8) (v := ?_) rfl (by kernel_rfl) (by kernel_rfl) (by kernel_rfl) (fun _ _ _ h => h) (Or.inl ⟨by rfl, ?_⟩) (by assumption) ?_
        rotate_left
        · (intro w hSw; (try dsimp only at hSw); go_simp; try (with_reducible rfl))
        try simp only [Act.put, List.setIfInBounds_toArray, List.set_cons_zero, List.set_cons_succ, List.getElem_toArray, List.getElem_cons_zero, List.getElem_cons_succ]
        refine wpAnyH_take (i := 9) (v := ?_) rfl (by kernel_rfl) (by kernel_rfl) (by kernel_rfl) (fun _ _ _ h => h) (Or.inl ⟨by rfl, ?_⟩) (by assumption) ?_
        rotate_left
        · (intro w hSw; (try dsimp only at hSw); go_simp; try (with_reducible rfl))
        try simp only [Act.put, List.setIfInBounds_toArray, List.set_cons_zero, List.set_cons_succ, List.getElem_toArray, List.getElem_cons_zero, List.getElem_cons_succ]
        refine wpAnyH_take (i := 10) (v := ?_) rfl (by kernel_rfl) (by kernel_rfl) (by kernel_rfl) (fun _ _ _ h => h) (Or.inl ⟨by rfl, ?_⟩) (by assumption) ?_
        rotate_left
        · (intro w hSw; (try dsimp only at hSw); go_simp; try (with_reducible rfl))
        try simp only [Act.put, List.setIfInBounds_toArray, List.set_cons_zero, List.set_cons_succ, List.getElem_toArray, List.getElem_cons_zero, List.getElem_cons_succ]
        refine wpAnyH_ready (rs := [5]) (by kernel_rfl) (by simp) ?_
        refine AllReadyH.cons rfl (fun K hK => ?_) AllReadyH.nil
        go_simp
        refine HC.out.mono ?_
        clear HC
        intro e w5 hp
        obtain ⟨rfl, F', hst⟩ := HD.out.put_t hp
        obtain ⟨H5⟩ : Nonempty (Hid (St B E w w5 tt rm _ L mo F' G bx _)) := ⟨hst⟩
        clear hst hp
        obtain ⟨HC⟩ : Nonempty (Hid (Calls _ _ _ _ _)) := ⟨rPut_any rm L mo ka kn khop G w5 H5.out.m HSL.out.1 HSL.out.2⟩
        rw [show putC L mo ka kn = cc from hcc.out] at HC
        refine hK.out _ _ ?_ (fun hHeld => ?_)
        · exact (act_cells H5.out.bo).2
        clear hK K
        try simp only [Act.put, List.setIfInBounds_toArray, List.set_cons_zero, List.set_cons_succ, List.getElem_toArray, List.getElem_cons_zero, List.getElem_cons_succ]
        refine wpAnyH_ready (rs := [11]) (by kernel_rfl) (by simp) ?_
        refine AllReadyH.cons rfl (fun K hK => ?_) AllReadyH.nil
        go_simp
        refine HC.out.mono ?_
        clear HC
        intro e w6 hp
        obtain ⟨rfl, G', hst⟩ := H5.out.rput hp
        obtain ⟨H6⟩ : Nonempty (Hid (St B E w w6 tt rm _ _ mo F' G' bx _)) := ⟨hst⟩
        clear hst hp
        obtain ⟨HC⟩ : Nonempty (Hid (Calls _ _ _ _ _)) := ⟨coded_ev cc HLE.out E w6 (HL.out.2 _ H6.out.ins.below)⟩
        refine hK.out _ _ ?_ (fun hHeld => ?_)
        · exact (act_cells H6.out.bo).2
        clear hK K
        try simp only [Act.put, List.setIfInBounds_toArray, List.set_cons_zero, List.set_cons_succ, List.getElem_toArray, List.getElem_cons_zero, List.getElem_cons_succ]
        refine wpAnyH_ready (rs := [12]) (by kernel_rfl) (by simp) ?_
        refine AllReadyH.cons rfl (fun K hK => ?_) AllReadyH.nil
        go_simp
        refine HC.out.mono ?_
        clear HC
        rintro e w7 ⟨rfl, hb7⟩
        obtain ⟨H7⟩ : Nonempty (Hid (St B E w w7 tt rm _ _ mo F' G' bx _)) := ⟨H6.out.all hb7⟩
        clear hb7
        refine hK.out _ _ ?_ (fun hHeld => ?_)
        · exact (act_cells H7.out.bo).2
        clear hK K
        try simp only [Act.put, List.setIfInBounds_toArray, List.set_cons_zero, List.set_cons_succ, List.getElem_toArray, List.getElem_cons_zero, List.getElem_cons_succ]
        refine wpAnyH_take (i := 13) (v := ?_) rfl (by kernel_rfl) (by kernel_rfl) (by kernel_rfl) (fun _ _ _ h => h) (Or.inl ⟨by rfl, ?_⟩) (by assumption) ?_
        rotate_left
        · (intro w hSw; (try dsimp only at hSw); go_simp; try (with_reducible rfl))
        try simp only [Act.put, List.setIfInBounds_toArray, List.set_cons_zero, List.set_cons_succ, List.getElem_toArray, List.getElem_cons_zero, List.getElem_cons_succ]
        refine wpAnyH_done (by kernel_rfl) ?_ _
        refine NoPanic.normal ?_
        clear hHeld c0 c1 c2 c3 c4
        obtain ⟨HN⟩ : Nonempty (Hid (St0 B E w _ tt rm (putS L mo ka kn khop) mo F' G')) := ⟨H7.out.none⟩
        obtain ⟨rq, rc, m1, -⟩ := rtab_slice HN.out.m
        obtain ⟨LL, hLL⟩ : ∃ x, Hid (putS L mo ka kn khop = x) := ⟨_, show _ = _ from rfl⟩
        rw [show putS L mo ka kn khop = LL from hLL.out] at HN m1
        go_wp2_with fail
        go_quiet ((go_at_call 21; exact Calls.quiet_of_same (count_any' tt LL mo F' _ (HN.out.t.1.below (below_drewN (Below.refl _ _) _)))))
        go_wp2_with fail
        go_roundw
        case rel => first | exact ⟨k + 1, LL, F', G', by go_num, HN.out.all (below_drewN (Below.refl _ _) _), by omega⟩ | ((repeat apply Exists.intro); exact ⟨⟨k + 1, LL, F', G', by go_num, HN.out.all (below_drewN (Below.refl _ _) _), by omega⟩, rfl⟩)
        case measure => simp [intOf]; omega
      | false =>
      cases k2 : (kind.toList == [100, 114, 111, 112]) with
      | true =>
        as_aux_lemma =>
        obtain ⟨HD⟩ : Nonempty (Hid (St B E w X.drew tt rm L L mo F G bx (actObj ⟨kind, ka, kn, khop, kq, kcap, kl⟩))) := ⟨HS.out.all (Below.refl _ _).drew⟩
        obtain ⟨HSL⟩ : Nonempty (Hid (Srt L ∧ L.length ≤ 1000000)) := ⟨⟨HD.out.t.1.srt, by have := HD.out.t.1.le; omega⟩⟩
        obtain ⟨HC⟩ : Nonempty (Hid (Calls _ _ _ _ _)) := ⟨drop_any tt L mo ka kn F E _ HD.out.t.1 HD.out.ins.errs (fun b hb => Nat.le_trans hw (HD.out.t.2 b hb)) (Nat.le_trans hw HD.out.ins.size)⟩
        obtain ⟨cc, hcc⟩ : ∃ c, Hid (dropC L ka kn = c) := ⟨_, show _ = _ from rfl⟩
        obtain ⟨HLE⟩ : Nonempty (Hid (cc ≤ 9)) := ⟨by rw [← hcc.out]; exact (codes_le (mo := mo)).2.1⟩
        rw [show dropC L ka kn = cc from hcc.out] at HC
        go_wp2_with fail
        refine wp_region_noPanic ?_
        refine wp_region_held_drew (S := (fun w' => w'.cell? ⟨bx, 1, none⟩ = some (.int .i64 ka) ∧ w'.cell? ⟨bx, 2, none⟩ = some (.int .i64 kn) ∧ w'.cell? ⟨bx, 3, none⟩ = some (.int .i64 khop) ∧ w'.cell? ⟨bx, 4, none⟩ = some (.slice kq kl.length kcap))) (by kernel_rfl) ?_ (fun hHeld => ?_)
        · exact (act_cells HD.out.bo).2
        refine wpAnyH_take (i := 0) (v := ?_) rfl (by kernel_rfl) (by kernel_rfl) (by kernel_rfl) (fun _ _ _ h => h) (Or.inl ⟨by rfl, ?_⟩) (by assumption) ?_
        rotate_left
        · (intro w hSw; (try dsimp only at hSw); go_simp; try (with_reducible rfl))
        try simp only [Act.put, List.setIfInBounds_toArray, List.set_cons_zero, List.set_cons_succ, List.getElem_toArray, List.getElem_cons_zero, List.getElem_cons_succ]
        refine wpAnyH_take (i := 1) (v := ?_) rfl (by kernel_rfl) (by kernel_rfl) (by kernel_rfl) (fun _ _ _ h => h) (Or.inl ⟨by rfl, ?_⟩) (by assumption) ?_
        rotate_left
        · (intro w hSw; (try dsimp only at hSw); go_simp; try (with_reducible rfl))
        try simp only [Act.put, List.setIfInBounds_toArray, List.set_cons_zero, List.set_cons_succ, List.getElem_toArray, List.getElem_cons_zero, List.getElem_cons_succ]
        refine wpAnyH_take (i := 2) (v := ?_) rfl (by kernel_rfl) (by kernel_rfl) (by kernel_rfl) (fun _ _ _ h => h) (Or.inl ⟨by rfl, ?_⟩) (by assumption) ?_
        rotate_left
        · (intro w hSw; (try dsimp only at hSw); go_simp; try (with_reducible rfl))
        try simp only [Act.put, List.setIfInBounds_toArray, List.set_cons_zero, List.set_cons_succ, List.getElem_toArray, List.getElem_cons_zero, List.getElem_cons_succ]
        refine wpAnyH_take (i := 4) (v := ?_) rfl (by kernel_rfl) (by kernel_rfl) (by kernel_rfl) (fun _ _ _ h => h) (Or.inl ⟨by rfl, ?_⟩) (by assumption) ?_
        rotate_left
        · (intro w hSw; (try dsimp only at hSw); go_simp; try (with_reducible rfl))
        try simp only [Act.put, List.setIfInBounds_toArray, List.set_cons_zero, List.set_cons_succ, List.getElem_toArray, List.getElem_cons_zero, List.getElem_cons_succ]
        refine wpAnyH_take (i := 5) (v := ?_) rfl (by kernel_rfl) (by kernel_rfl) (by kernel_rfl) (fun _ _ _ h => h) (Or.inl ⟨by rfl, ?_⟩) (by assumption) ?_
        rotate_left
        · (intro w hSw; (try dsimp only at hSw); go_simp; try (with_reducible rfl))
        try simp only [Act.put, List.setIfInBounds_toArray, List.set_cons_zero, List.set_cons_succ, List.getElem_toArray, List.getElem_cons_zero, List.getElem_cons_succ]
        refine wpAnyH_take (i := 6) (v := ?_) rfl (by kernel_rfl) (by kernel_rfl) (by kernel_rfl) (fun _ _ _ h => h) (Or.inl ⟨by rfl, ?_⟩) (by assumption) ?_
        rotate_left
        · (intro w hSw; (try dsimp only at hSw); go_simp; try (with_reducible rfl))
        try simp only [Act.put, List.setIfInBounds_toArray, List.set_cons_zero, List.set_cons_succ, List.getElem_toArray, List.getElem_cons_zero, List.getElem_cons_succ]
        refine wpAnyH_ready (rs := [3]) (by kernel_rfl) (by simp) ?_
        refine AllReadyH.cons rfl (fun K hK => ?_) AllReadyH.nil
        go_simp
        refine HC.out.mono ?_
        clear HC
        intro e w5 hp
        obtain ⟨rfl, F', hst⟩ := HD.out.put_t hp
        obtain ⟨H5⟩ : Nonempty (Hid (St B E w w5 tt rm _ L mo F' G bx _)) := ⟨hst⟩
        clear hst hp
        obtain ⟨HC⟩ : Nonempty (Hid (Calls _ _ _ _ _)) := ⟨rDrop_any rm L mo ka kn G w5 H5.out.m HSL.out.1 HSL.out.2⟩
        rw [show dropC L ka kn = cc from hcc.out] at HC
        refine hK.out _ _ ?_ (fun hHeld => ?_)
        · exact (act_cells H5.out.bo).2
        clear hK K
        try simp only [Act.put, List.setIfInBounds_toArray, List.set_cons_zero, List.set_cons_succ, List.getElem_toArray, List.getElem_cons_zero, List.getElem_cons_succ]
        refine wpAnyH_ready (rs := [7]) (by kernel_rfl) (by simp) ?_
        refine AllReadyH.cons rfl (fun K hK => ?_) AllReadyH.nil
        go_simp
        refine HC.out.mono ?_
        clear HC
        intro e w6 hp
        obtain ⟨rfl, G', hst⟩ := H5.out.rput hp
        obtain ⟨H6⟩ : Nonempty (Hid (St B E w w6 tt rm _ _ mo F' G' bx _)) := ⟨hst⟩
        clear hst hp
        obtain ⟨HC⟩ : Nonempty (Hid (Calls _ _ _ _ _)) := ⟨coded_ev cc HLE.out E w6 (HL.out.2 _ H6.out.ins.below)⟩
        refine hK.out _ _ ?_ (fun hHeld => ?_)
        · exact (act_cells H6.out.bo).2
        clear hK K
        try simp only [Act.put, List.setIfInBounds_toArray, List.set_cons_zero, List.set_cons_succ, List.getElem_toArray, List.getElem_cons_zero, List.getElem_cons_succ]
        refine wpAnyH_ready (rs := [8]) (by kernel_rfl) (by simp) ?_
        refine AllReadyH.cons rfl (fun K hK => ?_) AllReadyH.nil
        go_simp
        refine HC.out.mono ?_
        clear HC
        rintro e w7 ⟨rfl, hb7⟩
        obtain ⟨H7⟩ : Nonempty (Hid (St B E w w7 tt rm _ _ mo F' G' bx _)) := ⟨H6.out.all hb7⟩
        clear hb7
        refine hK.out _ _ ?_ (fun hHeld => ?_)
        · exact (act_cells H7.out.bo).2
        clear hK K
        try simp only [Act.put, List.setIfInBounds_toArray, List.set_cons_zero, List.set_cons_succ, List.getElem_toArray, List.getElem_cons_zero, List.getElem_cons_succ]
        refine wpAnyH_take (i := 9) (v := ?_) rfl (by kernel_rfl) (by kernel_rfl) (by kernel_rfl) (fun _ _ _ h => h) (Or.inl ⟨by rfl, ?_⟩) (by assumption) ?_
        rotate_left
        · (intro w hSw; (try dsimp only at hSw); go_simp; try (with_reducible rfl))
        try simp only [Act.put, List.setIfInBounds_toArray, List.set_cons_zero, List.set_cons_succ, List.getElem_toArray, List.getElem_cons_zero, List.getElem_cons_succ]
        refine wpAnyH_done (by kernel_rfl) ?_ _
        refine NoPanic.normal ?_
        clear hHeld c0 c1 c2 c3 c4
        obtain ⟨HN⟩ : Nonempty (Hid (St0 B E w _ tt rm (dropS L ka kn) mo F' G')) := ⟨H7.out.none⟩
        obtain ⟨rq, rc, m1, -⟩ := rtab_slice HN.out.m
        obtain ⟨LL, hLL⟩ : ∃ x, Hid (dropS L ka kn = x) := ⟨_, show _ = _ from rfl⟩
        rw [show dropS L ka kn = LL from hLL.out] at HN m1
        go_wp2_with fail
        go_quiet ((go_at_call 21; exact Calls.quiet_of_same (count_any' tt LL mo F' _ (HN.out.t.1.below (below_drewN (Below.refl _ _) _)))))
        go_wp2_with fail
        go_roundw
        case rel => first | exact ⟨k + 1, LL, F', G', by go_num, HN.out.all (below_drewN (Below.refl _ _) _), by omega⟩ | ((repeat apply Exists.intro); exact ⟨⟨k + 1, LL, F', G', by go_num, HN.out.all (below_drewN (Below.refl _ _) _), by omega⟩, rfl⟩)
        case measure => simp [intOf]; omega
      | false =>
      cases k3 : (kind.toList == [115, 101, 116]) with
      | true =>
        as_aux_lemma =>
        obtain ⟨HD⟩ : Nonempty (Hid (St B E w X.drew tt rm L L mo F G bx (actObj ⟨kind, ka, kn, khop, kq, kcap, kl⟩))) := ⟨HS.out.all (Below.refl _ _).drew⟩
        obtain ⟨HSL⟩ : Nonempty (Hid (Srt L ∧ L.length ≤ 1000000)) := ⟨⟨HD.out.t.1.srt, by have := HD.out.t.1.le; omega⟩⟩
        obtain ⟨HEX⟩ : Nonempty (Hid (∀ w', Below B w w' → Ents w' kq kl)) := ⟨fun w' hb => by
          obtain ⟨b', o', e', -, -, -, -, -, hl⟩ := HL.out.1 _ hb k hlt
          rw [show A[k] = _ from hact.out] at hl; exact hl⟩
        obtain ⟨HC⟩ : Nonempty (Hid (Calls _ _ _ _ _)) := ⟨asEntries_any kl kq kcap X.drew (HEX.out _ HD.out.ins.below) (by omega)⟩
        obtain ⟨HMO⟩ : Nonempty (Hid (0 ≤ mo ∧ mo ≤ 60)) := ⟨⟨by have := hmo.out; omega, by have := hmo.out; omega⟩⟩
        go_wp2_with fail
        refine wp_region_noPanic ?_
        refine wp_region_held_drew (S := (fun w' => w'.cell? ⟨bx, 1, none⟩ = some (.int .i64 ka) ∧ w'.cell? ⟨bx, 2, none⟩ = some (.int .i64 kn) ∧ w'.cell? ⟨bx, 3, none⟩ = some (.int .i64 khop) ∧ w'.cell? ⟨bx, 4, none⟩ = some (.slice kq kl.length kcap))) (by kernel_rfl) ?_ (fun hHeld => ?_)
        · exact (act_cells HD.out.bo).2
        refine wpAnyH_take (i := 0) (v := ?_) rfl (by kernel_rfl) (by kernel_rfl) (by kernel_rfl) (fun _ _ _ h => h) (Or.inl ⟨by rfl, ?_⟩) (by assumption) ?_
        rotate_left
        · (intro w hSw; (try dsimp only at hSw); go_simp; try (with_reducible rfl))
        try simp only [Act.put, List.setIfInBounds_toArray, List.set_cons_zero, List.set_cons_succ, List.getElem_toArray, List.getElem_cons_zero, List.getElem_cons_succ]
        refine wpAnyH_take (i := 1) (v := ?_) rfl (by kernel_rfl) (by kernel_rfl) (by kernel_rfl) (fun _ _ _ h => h) (Or.inl ⟨by rfl, ?_⟩) (by assumption) ?_
        rotate_left
        · (intro w hSw; (try dsimp only at hSw); go_simp; try (with_reducible rfl))
        try simp only [Act.put, List.setIfInBounds_toArray, List.set_cons_zero, List.set_cons_succ, List.getElem_toArray, List.getElem_cons_zero, List.getElem_cons_succ]
        refine wpAnyH_take (i := 2) (v := ?_) rfl (by kernel_rfl) (by kernel_rfl) (by kernel_rfl) (fun _ _ _ h => h) (Or.inl ⟨by rfl, ?_⟩) (by assumption) ?_
        rotate_left
        · (intro w hSw; (try dsimp only at hSw); go_simp; try (with_reducible rfl))
        try simp only [Act.put, List.setIfInBounds_toArray, List.set_cons_zero, List.set_cons_succ, List.getElem_toArray, List.getElem_cons_zero, List.getElem_cons_succ]
        refine wpAnyH_take (i := 5) (v := ?_) rfl (by kernel_rfl) (by kernel_rfl) (by kernel_rfl) (fun _ _ _ h => h) (Or.inl ⟨by rfl, ?_⟩) (by assumption) ?_
        rotate_left
        · (intro w hSw; (try dsimp only at hSw); go_simp; try (with_reducible rfl))
        try simp only [Act.put, List.setIfInBounds_toArray, List.set_cons_zero, List.set_cons_succ, List.getElem_toArray, List.getElem_cons_zero, List.getElem_cons_succ]
        refine wpAnyH_take (i := 6) (v := ?_) rfl (by kernel_rfl) (by kernel_rfl) (by kernel_rfl) (fun _ _ _ h => h) (Or.inl ⟨by rfl, ?_⟩) (by assumption) ?_
        rotate_left
        · (intro w hSw; (try dsimp only at hSw); go_simp; try (with_reducible rfl))
        try simp only [Act.put, List.setIfInBounds_toArray, List.set_cons_zero, List.set_cons_succ, List.getElem_toArray, List.getElem_cons_zero, List.getElem_cons_succ]
        refine wpAnyH_take (i := 7) (v := ?_) rfl (by kernel_rfl) (by kernel_rfl) (by kernel_rfl) (fun _ _ _ h => h) (Or.inl ⟨by rfl, ?_⟩) (by assumption) ?_
        rotate_left
        · (intro w hSw; (try dsimp only at hSw); go_simp; try (with_reducible rfl))
        try simp only [Act.put, List.setIfInBounds_toArray, List.set_cons_zero, List.set_cons_succ, List.getElem_toArray, List.getElem_cons_zero, List.getElem_cons_succ]
        refine wpAnyH_ready (rs := [3]) (by kernel_rfl) (by simp) ?_
        refine AllReadyH.cons rfl (fun K hK => ?_) AllReadyH.nil
        go_simp
        refine HC.out.mono ?_
        clear HC
        rintro e w4 ⟨v4, rfl, hown4, hb4⟩
        obtain ⟨q4, cq4, rfl, -, -, hq4⟩ := own_ents hown4
        obtain ⟨H4⟩ : Nonempty (Hid (St B E w w4 tt rm L L mo F G bx _ ∧ Ents w4 q4 kl)) := ⟨⟨HD.out.all hb4, hq4⟩⟩
        clear hown4 hb4 hq4
        obtain ⟨HC⟩ : Nonempty (Hid (Calls _ _ _ _ _)) := ⟨set_any tt L kl mo F E q4 cq4 w4 H4.out.1.t.1 H4.out.2 H4.out.1.ins.errs (errs_ex (HL.out.2 _ H4.out.1.ins.below)) (fun b hb => Nat.le_trans hw (H4.out.1.t.2 b hb)) (Nat.le_trans hw H4.out.1.ins.size) (by omega)⟩
        refine hK.out _ _ ?_ (fun hHeld => ?_)
        · exact (act_cells H4.out.1.bo).2
        clear hK K
        try simp only [Act.put, List.setIfInBounds_toArray, List.set_cons_zero, List.set_cons_succ, List.getElem_toArray, List.getElem_cons_zero, List.getElem_cons_succ]
        refine wpAnyH_ready (rs := [4]) (by kernel_rfl) (by simp) ?_
        refine AllReadyH.cons rfl (fun K hK => ?_) AllReadyH.nil
        go_simp
        refine HC.out.mono ?_
        clear HC
        intro e w5 hp
        obtain ⟨v5, Lt', F', rfl, hst, hT⟩ := H4.out.1.set_t hp
        obtain ⟨H5⟩ : Nonempty (Hid (St B E w w5 tt rm Lt' L mo F' G bx _ ∧ SetT mo kl E L Lt' v5 w5)) := ⟨⟨hst, hT⟩⟩
        clear hst hp hT
        obtain ⟨HC⟩ : Nonempty (Hid (Calls _ _ _ _ _)) := ⟨rSet_any rm L kl mo G kq kcap w5 H5.out.1.m (HEX.out _ H5.out.1.ins.below) HMO.out.1 HMO.out.2 (by omega)⟩
        refine hK.out _ _ ?_ (fun hHeld => ?_)
        · exact (act_cells H5.out.1.bo).2
        clear hK K
        try simp only [Act.put, List.setIfInBounds_toArray, List.set_cons_zero, List.set_cons_succ, List.getElem_toArray, List.getElem_cons_zero, List.getElem_cons_succ]
        refine wpAnyH_ready (rs := [8]) (by kernel_rfl) (by simp) ?_
        refine AllReadyH.cons rfl (fun K hK => ?_) AllReadyH.nil
        go_simp
        refine HC.out.mono ?_
        clear HC
        intro e w6 hp
        obtain ⟨f0, f1, Lm', G', rfl, hst, hM, hkp⟩ := H5.out.1.set_m hp
        have hone := sets_one H5.out.2 hM H5.out.1.m hkp (HL.out.2 _ hst.ins.below)
        obtain rfl := hone.1
        obtain ⟨H6⟩ : Nonempty (Hid (St B E w w6 tt rm Lt' Lt' mo F' G' bx _)) := ⟨hst⟩
        obtain ⟨HC⟩ : Nonempty (Hid (Calls _ _ _ _ _)) := ⟨hone.2⟩
        clear hst hp hM hkp hone
        refine hK.out _ _ ?_ (fun hHeld => ?_)
        · exact (act_cells H6.out.bo).2
        clear hK K
        try simp only [Act.put, List.setIfInBounds_toArray, List.set_cons_zero, List.set_cons_succ, List.getElem_toArray, List.getElem_cons_zero, List.getElem_cons_succ]
        refine wpAnyH_ready (rs := [9]) (by kernel_rfl) (by simp) ?_
        refine AllReadyH.cons rfl (fun K hK => ?_) AllReadyH.nil
        go_simp
        refine HC.out.mono ?_
        clear HC
        rintro e w7 ⟨rfl, hb7⟩
        obtain ⟨H7⟩ : Nonempty (Hid (St B E w w7 tt rm Lt' Lt' mo F' G' bx _)) := ⟨H6.out.all hb7⟩
        clear hb7
        refine hK.out _ _ ?_ (fun hHeld => ?_)
        · exact (act_cells H7.out.bo).2
        clear hK K
        try simp only [Act.put, List.setIfInBounds_toArray, List.set_cons_zero, List.set_cons_succ, List.getElem_toArray, List.getElem_cons_zero, List.getElem_cons_succ]
        refine wpAnyH_take (i := 10) (v := ?_) rfl (by kernel_rfl) (by kernel_rfl) (by kernel_rfl) (fun _ _ _ h => h) (Or.inl ⟨by rfl, ?_⟩) (by assumption) ?_
        rotate_left
        · (intro w hSw; (try dsimp only at hSw); go_simp; try (with_reducible rfl))
        try simp only [Act.put, List.setIfInBounds_toArray, List.set_cons_zero, List.set_cons_succ, List.getElem_toArray, List.getElem_cons_zero, List.getElem_cons_succ]
        refine wpAnyH_done (by kernel_rfl) ?_ _
        refine NoPanic.normal ?_
        clear hHeld c0 c1 c2 c3 c4
        obtain ⟨HN⟩ : Nonempty (Hid (St0 B E w _ tt rm (Lt') mo F' G')) := ⟨H7.out.none⟩
        obtain ⟨rq, rc, m1, -⟩ := rtab_slice HN.out.m
        obtain ⟨LL, hLL⟩ : ∃ x, Hid (Lt' = x) := ⟨_, show _ = _ from rfl⟩
        rw [show Lt' = LL from hLL.out] at HN m1
        go_wp2_with fail
        go_quiet ((go_at_call 21; exact Calls.quiet_of_same (count_any' tt LL mo F' _ (HN.out.t.1.below (below_drewN (Below.refl _ _) _)))))
        go_wp2_with fail
        go_roundw
        case rel => first | exact ⟨k + 1, LL, F', G', by go_num, HN.out.all (below_drewN (Below.refl _ _) _), by omega⟩ | ((repeat apply Exists.intro); exact ⟨⟨k + 1, LL, F', G', by go_num, HN.out.all (below_drewN (Below.refl _ _) _), by omega⟩, rfl⟩)
        case measure => simp [intOf]; omega
      | false =>
        as_aux_lemma =>
        obtain ⟨HC⟩ : Nonempty (Hid (Calls _ _ _ _ _)) := ⟨find_any tt L mo khop F E X HS.out.t.1 HS.out.ins.errs⟩
        go_wp2_with fail
        refine HC.out.mono ?_
        clear HC
        rintro e w4 ⟨o, hlo, rfl, hb4⟩
        obtain ⟨⟨⟨p0, p1⟩, p2⟩, hp⟩ : ∃ x, Hid (accE o = x) := ⟨_, show _ = _ from rfl⟩
        obtain ⟨is, his⟩ : ∃ x, Hid (o.isSome = x) := ⟨_, show _ = _ from rfl⟩
        rw [show accE o = ((p0, p1), p2) from hp.out, show o.isSome = is from his.out]
        simp only
        have hbA := hb4.trans ((below_alloc w4 (.cells #[.int .i64 p0, .int .i64 p1] 36)).mono hb4.size)
        have hrA := Go.heap_alloc_new w4 (.cells #[.int .i64 p0, .int .i64 p1] 36)
        obtain ⟨H4⟩ : Nonempty (Hid (Longest L khop o ∧ St B E w (w4.alloc (.cells #[.int .i64 p0, .int .i64 p1] 36)) tt rm L L mo F G bx (actObj ⟨kind, ka, kn, khop, kq, kcap, kl⟩) ∧ (w4.alloc (.cells #[.int .i64 p0, .int .i64 p1] 36)).heap[w4.heap.size]? = some (.cells #[.int .i64 p0, .int .i64 p1] 36 (0, 0)))) := ⟨⟨hlo, HS.out.all hbA, hrA⟩⟩
        clear hlo hb4 hbA hrA c0 c1 c2 c3 c4
        obtain ⟨s1, hs1⟩ : ∃ x, Hid (w4.heap.size = x) := ⟨_, show _ = _ from rfl⟩
        obtain ⟨W4, hW4⟩ : ∃ x, Hid (w4.alloc (.cells #[.int .i64 p0, .int .i64 p1] 36) = x) := ⟨_, show _ = _ from rfl⟩
        rw [show w4.alloc (.cells #[.int .i64 p0, .int .i64 p1] 36) = W4 from hW4.out, show w4.heap.size = s1 from hs1.out] at H4
        obtain ⟨HC⟩ : Nonempty (Hid (Calls _ _ _ _ _)) := ⟨rFind_any rm L mo khop G W4 H4.out.2.1.m (by have := H4.out.2.1.t.1.le; omega)⟩
        go_upto_region 14 with fail
        rw [show w4.alloc (.cells #[.int .i64 p0, .int .i64 p1] 36) = W4 from hW4.out, show w4.heap.size = s1 from hs1.out]
        obtain ⟨c0, c1, c2, c3, c4⟩ := act_cells H4.out.2.1.bo
        simp only at c0 c1 c2 c3 c4
        go_wp2_with fail
        refine HC.out.mono ?_
        clear HC
        rintro e w5 ⟨kk, rfl, hfk, hb5⟩
        obtain ⟨H5⟩ : Nonempty (Hid (St B E w w5 tt rm L L mo F G bx (actObj ⟨kind, ka, kn, khop, kq, kcap, kl⟩) ∧ w5.heap[s1]? = some (.cells #[.int .i64 p0, .int .i64 p1] 36 (0, 0)))) := ⟨⟨H4.out.2.1.all hb5, by rw [hb5.block s1 (Array.getElem?_eq_some_iff.1 H4.out.2.2).1]; exact H4.out.2.2⟩⟩
        have hfo := found_o H4.out.2.1.t.1.srt H4.out.2.1.t.1.rts H4.out.1 hfk
        clear hb5 hfk c0 c1 c2 c3 c4 H4
        obtain ⟨g0, g1, -, -⟩ := pre_cells H5.out.2
        rcases hfo with ⟨rfl, rfl⟩ | ⟨i, hi, rfl, rfl⟩
        · obtain rfl : false = is := his.out
          have hpe : (((0, 0), 0) : Ent) = ((p0, p1), p2) := hp.out
          simp only [Prod.mk.injEq] at hpe
          obtain ⟨⟨rfl, rfl⟩, rfl⟩ := hpe
          go_wp2_with fail
          go_quiet (fail)
          obtain ⟨wq, hwq⟩ : ∃ x, Hid (w5.drewN nq = x) := ⟨_, show _ = _ from rfl⟩
          obtain ⟨HQ⟩ : Nonempty (Hid (St B E w wq tt rm L L mo F G bx (actObj ⟨kind, ka, kn, khop, kq, kcap, kl⟩))) := ⟨by rw [← hwq.out]; exact H5.out.1.all (below_drewN (Below.refl _ _) nq)⟩
          rw [show w5.drewN nq = wq from hwq.out]
          clear g0 g1
          obtain ⟨HN⟩ : Nonempty (Hid (St0 B E w _ tt rm (L) mo F G)) := ⟨HQ.out.none⟩
          obtain ⟨rq, rc, m1, -⟩ := rtab_slice HN.out.m
          obtain ⟨LL, hLL⟩ : ∃ x, Hid (L = x) := ⟨_, show _ = _ from rfl⟩
          rw [show L = LL from hLL.out] at HN m1
          go_wp2_with fail
          go_quiet ((go_at_call 21; exact Calls.quiet_of_same (count_any' tt LL mo F _ (HN.out.t.1.below (below_drewN (Below.refl _ _) _)))))
          go_wp2_with fail
          go_roundw
          case rel => first | exact ⟨k + 1, LL, F, G, by go_num, HN.out.all (below_drewN (Below.refl _ _) _), by omega⟩ | ((repeat apply Exists.intro); exact ⟨⟨k + 1, LL, F, G, by go_num, HN.out.all (below_drewN (Below.refl _ _) _), by omega⟩, rfl⟩)
          case measure => simp [intOf]; omega
        · obtain rfl : true = is := his.out
          have hpe : L[i] = ((p0, p1), p2) := hp.out
          obtain ⟨rq0, rc0, m0, hme⟩ := rtab_slice H5.out.1.m
          obtain ⟨rb0, ro0, rfl, d0, d1, d2⟩ := hme i hi
          rw [hpe] at d0 d1 d2
          simp only at d0 d1 d2
          have q4 : (i : Int) < L.length := by omega
          have q5 : decide ((0 : Int) ≤ (i : Int)) = true := decide_eq_true (by omega)
          clear hpe hme
          go_wp2_with fail
          go_quiet (fail)
          obtain ⟨wq, hwq⟩ : ∃ x, Hid (w5.drewN nq = x) := ⟨_, show _ = _ from rfl⟩
          obtain ⟨HQ⟩ : Nonempty (Hid (St B E w wq tt rm L L mo F G bx (actObj ⟨kind, ka, kn, khop, kq, kcap, kl⟩))) := ⟨by rw [← hwq.out]; exact H5.out.1.all (below_drewN (Below.refl _ _) nq)⟩
          rw [show w5.drewN nq = wq from hwq.out]
          clear g0 g1 d0 d1 d2 m0
          obtain ⟨HN⟩ : Nonempty (Hid (St0 B E w _ tt rm (L) mo F G)) := ⟨HQ.out.none⟩
          obtain ⟨rq, rc, m1, -⟩ := rtab_slice HN.out.m
          obtain ⟨LL, hLL⟩ : ∃ x, Hid (L = x) := ⟨_, show _ = _ from rfl⟩
          rw [show L = LL from hLL.out] at HN m1
          go_wp2_with fail
          go_quiet ((go_at_call 21; exact Calls.quiet_of_same (count_any' tt LL mo F _ (HN.out.t.1.below (below_drewN (Below.refl _ _) _)))))
          go_wp2_with fail
          go_roundw
          case rel => first | exact ⟨k + 1, LL, F, G, by go_num, HN.out.all (below_drewN (Below.refl _ _) _), by omega⟩ | ((repeat apply Exists.intro); exact ⟨⟨k + 1, LL, F, G, by go_num, HN.out.all (below_drewN (Below.refl _ _) _), by omega⟩, rfl⟩)
          case measure => simp [intOf]; omega
    · as_aux_lemma =>
      obtain rfl : k = A.length := by omega
      clear hlt hkl
      obtain ⟨HC⟩ : Nonempty (Hid (Calls _ _ _ _ _)) := ⟨all_any tt L mo F wr HK.out.t.1⟩
      go_wp2_with fail
      refine HC.out.mono ?_
      clear HC
      rintro e w4 ⟨v, rfl, hown, hb4⟩
      obtain ⟨q, c, rfl, -, -, hq⟩ := own_ents hown
      obtain ⟨rq, rc, m1, hme⟩ := rtab_slice (HK.out.m.below hb4)
      obtain ⟨H4⟩ : Nonempty (Hid (St0 B E w w4 tt rm L mo F G ∧ Ents w4 q L ∧ Ents w4 rq L ∧ w4.cell? ⟨rm, 1, none⟩ = some (.slice rq L.length rc))) := ⟨⟨HK.out.all hb4, hq, hme, m1⟩⟩
      clear hown hb4 hq hme HK
      go_wp2_with fail
      clear m1
      go_loopw [6, 17] (fun _ i wr => ∃ k : Nat, i = .int .i64 k ∧ Hid (Below w4.heap.size w4 wr) ∧ k ≤ L.length) (fun _ i _ => L.length - (intOf i).toNat)
      case atStart => exact ⟨0, rfl, Below.refl _ _, Nat.zero_le _⟩
      case round =>
        obtain ⟨k, rfl, HB, hkl⟩ := hrel
        have m1 := cell_kept HB.out H4.out.2.2.2
        by_cases hlt : k < L.length
        · as_aux_lemma =>
          have q3 : (k : Int) < L.length := by omega
          have q4 : (L.length : Int) ≤ 60 := by have := H4.out.1.t.1.le; omega
          obtain ⟨b1, o1, rfl, d0, d1, d2⟩ := (H4.out.2.1.below HB.out) k hlt
          obtain ⟨b2, o2, rfl, f0, f1, f2⟩ := (H4.out.2.2.1.below HB.out) k hlt
          obtain ⟨⟨⟨x0, x1⟩, x2⟩, hx⟩ : ∃ x, Hid (L[k] = x) := ⟨_, show _ = _ from rfl⟩
          rw [hx.out] at d0 d1 d2 f0 f1 f2
          simp only at d0 d1 d2 f0 f1 f2
          go_wp2_with fail
          go_quiet (fail)
          go_wp2_with fail
          go_roundw
          case rel => first | exact ⟨k + 1, by go_num, below_drewN HB.out _, by omega⟩ | ((repeat apply Exists.intro); exact ⟨⟨k + 1, by go_num, below_drewN HB.out _, by omega⟩, rfl⟩)
          case measure => simp [intOf]; omega
        · as_aux_lemma =>
          obtain rfl : k = L.length := by omega
          clear hlt hkl
          obtain ⟨H5⟩ : Nonempty (Hid (St0 B E w wr tt rm L mo F G)) := ⟨H4.out.1.all HB.out⟩
          obtain ⟨HC⟩ : Nonempty (Hid (Calls _ _ _ _ _)) := ⟨find_any tt L mo a F E wr H5.out.t.1 H5.out.ins.errs⟩
          go_wp2_with fail
          refine HC.out.mono ?_
          clear HC
          rintro e w6 ⟨o, hlo, rfl, hb6⟩
          obtain ⟨⟨⟨p0, p1⟩, p2⟩, hp⟩ : ∃ x, Hid (accE o = x) := ⟨_, show _ = _ from rfl⟩
          rw [show accE o = ((p0, p1), p2) from hp.out]
          simp only
          have hbA := hb6.trans ((below_alloc w6 (.cells #[.int .i64 p0, .int .i64 p1] 36)).mono hb6.size)
          obtain ⟨H6⟩ : Nonempty (Hid (Longest L a o ∧ St0 B E w (w6.alloc (.cells #[.int .i64 p0, .int .i64 p1] 36)) tt rm L mo F G)) := ⟨⟨hlo, H5.out.all hbA⟩⟩
          clear hlo hb6 hbA m1
          obtain ⟨W6, hW6⟩ : ∃ x, Hid (w6.alloc (.cells #[.int .i64 p0, .int .i64 p1] 36) = x) := ⟨_, show _ = _ from rfl⟩
          rw [show w6.alloc (.cells #[.int .i64 p0, .int .i64 p1] 36) = W6 from hW6.out] at H6
          obtain ⟨HC⟩ : Nonempty (Hid (Calls _ _ _ _ _)) := ⟨rFind_any rm L mo a G W6 H6.out.2.m (by have := H6.out.2.t.1.le; omega)⟩
          go_upto_region 39 with fail
          rw [show w6.alloc (.cells #[.int .i64 p0, .int .i64 p1] 36) = W6 from hW6.out]
          go_wp2_with fail
          refine HC.out.mono ?_
          clear HC
          rintro e w7 ⟨kk, rfl, hfk, hb7⟩
          have hfo := found_o H6.out.2.t.1.srt H6.out.2.t.1.rts H6.out.1 hfk
          obtain ⟨HF⟩ : Nonempty (Hid (Below B w w7)) := ⟨(H6.out.2.all hb7).ins.below⟩
          have hd : (o.isSome == decide (0 ≤ kk)) = true := by
            rcases hfo with ⟨rfl, rfl⟩ | ⟨i, hi, rfl, rfl⟩
            · rfl
            · simp
          clear hfk hb7 hfo
          go_wp2_with fail
          go_ret
          exact ⟨by first | rfl | simp [hd], HF.out⟩
end Go.Proofs.YthehpnhjfnenoabDoor
