/-
  FibLongest: what is found has the address, is there, and nothing longer has it; all of it, set anew, finds the same: the walk.
-/
import Derived.Test.YthehpnhjfnenoabDoorFibLong0
namespace Go.Proofs.YthehpnhjfnenoabDoor
open Go.RowKit

set_option linter.unusedVariables false in
set_option linter.unusedSimpArgs false in
set_option maxRecDepth 100000 in
set_option maxHeartbeats 2000000 in
theorem fibLongest_any (L : List Ent) (p : Option Addr) (cap : Nat) (a : Int) (E : Nat → Addr) (w : World) (hL : Ents w p L) (hE : FibErrs w E) (hX : ExLaid w E) (hw : 12 ≤ w.heap.size) :
    Calls Tryd.prog 4 #[.slice p L.length cap, .int .i64 a] w fun r w' => r = .returned (.bool true) ∧ Below w.heap.size w w' := by
  obtain ⟨HC⟩ : Nonempty (Hid (Calls _ _ _ _ _)) := ⟨tabled_any E w hE hw⟩
  obtain ⟨HI⟩ : Nonempty (Hid (In0 w.heap.size E w w)) := ⟨⟨Below.refl _ _, Nat.le_refl _, hw, hE⟩⟩
  obtain ⟨HL⟩ : Nonempty (Hid (Ents w p L ∧ ExLaid w E)) := ⟨⟨hL, hX⟩⟩
  obtain ⟨B, hB⟩ : ∃ b, Hid (w.heap.size = b) := ⟨_, show _ = _ from rfl⟩
  rw [show w.heap.size = B from hB.out] at HI HC hw ⊢
  clear hE hL hX
  go_enter Tryd.func4, Tryd.ntmps4
  go_wp2_with fail
  refine HC.out.mono ?_
  clear HC
  rintro e w1 ⟨rfl, hb1⟩
  obtain ⟨HI1⟩ : Nonempty (Hid (In0 B E w w1)) := ⟨HI.out.next hb1⟩
  clear HI
  by_cases h60 : (60 : Int) < L.length
  · go_wp2_with fail
    go_ret
    exact ⟨rfl, hb1⟩
  have q1 : (L.length : Int) ≤ 60 := by omega
  have q6 : decide ((60 : Int) < L.length) = false := decide_eq_false (by omega)
  clear h60 hb1
  obtain ⟨HC⟩ : Nonempty (Hid (Calls _ _ _ _ _)) := ⟨new_any 60 60 (show min (max (60 : Int) 0) 60 = 60 by decide) w1⟩
  go_wp2_with fail
  refine HC.out.mono ?_
  clear HC
  rintro e w2 ⟨rfl, it, hb2⟩
  obtain ⟨tt, htt⟩ : ∃ b, Hid (w1.heap.size = b) := ⟨_, show _ = _ from rfl⟩
  obtain ⟨H2⟩ : Nonempty (Hid (In0 B E w w2 ∧ Own B w2 tt [] 60 [tt])) := ⟨⟨HI1.out.all hb2, by rw [← htt.out]; exact own_new it HI1.out.size⟩⟩
  rw [show w1.heap.size = tt from htt.out]
  clear it hb2 HI1
  go_wp2_with fail
  go_loopw [7] (fun i wr => ∃ (k : Nat) (M : List Ent) (F : List Nat), i = .int .i64 k ∧ Hid (In0 B E w wr ∧ Own B wr tt M 60 F) ∧ k ≤ L.length) (fun i _ => L.length - (intOf i).toNat)
  case atStart => exact ⟨0, [], [tt], rfl, H2, Nat.zero_le _⟩
  case round =>
    obtain ⟨k, M, F, rfl, HK, hkl⟩ := hrel
    clear H2
    by_cases hlt : k < L.length
    · as_aux_lemma =>
      have q3 : (k : Int) < L.length := by omega
      obtain ⟨b, o, rfl, c0, c1, c2⟩ := HL.out.1 k hlt
      obtain ⟨⟨⟨x0, x1⟩, x2⟩, hx⟩ : ∃ x, Hid (L[k] = x) := ⟨_, show _ = _ from rfl⟩
      rw [hx.out] at c0 c1 c2
      simp only at c0 c1 c2
      obtain ⟨HS⟩ : Nonempty (Hid (∀ w', Below B w w' → w'.cell? ⟨b, o + k * 3, none⟩ = some (.int .i64 x0) ∧ w'.cell? ⟨b, o + k * 3 + 1, none⟩ = some (.int .i64 x1) ∧ w'.cell? ⟨b, o + k * 3 + 2, none⟩ = some (.int .i64 x2))) := ⟨fun w' hb => by
        rw [← show w.heap.size = B from hB.out] at hb
        exact ⟨cell_kept hb c0, cell_kept hb c1, cell_kept hb c2⟩⟩
      clear c0 c1 c2
      obtain ⟨HD⟩ : Nonempty (Hid (In0 B E w wr.drew ∧ Own B wr.drew tt M 60 F)) := ⟨⟨HK.out.1.all (Below.refl _ _).drew, HK.out.2.all (Below.refl _ _).drew⟩⟩
      obtain ⟨HC⟩ : Nonempty (Hid (Calls _ _ _ _ _)) := ⟨put_any tt M 60 x0 x1 x2 F E _ HD.out.2.1 HD.out.1.errs (fun b hb => Nat.le_trans hw (HD.out.2.2 b hb)) (Nat.le_trans hw HD.out.1.size)⟩
      obtain ⟨res, Hres⟩ : ∃ v, Hid (ev E (putC M 60 x0 x1) = v) := ⟨_, show _ = _ from rfl⟩
      rw [show ev E (putC M 60 x0 x1) = res from Hres.out] at HC
      go_wp2_with fail
      refine wp_region_noPanic ?_
      refine wp_region_held_drew (S := (fun w' => w'.cell? ⟨b, o + k * 3, none⟩ = some (.int .i64 x0) ∧ w'.cell? ⟨b, o + k * 3 + 1, none⟩ = some (.int .i64 x1) ∧ w'.cell? ⟨b, o + k * 3 + 2, none⟩ = some (.int .i64 x2))) (by kernel_rfl) ?_ (fun hHeld => ?_)
      · exact HS.out _ HD.out.1.below
      refine wpAnyH_take (i := 0) (v := ?_) rfl (by kernel_rfl) (by kernel_rfl) (by kernel_rfl) (fun _ _ _ h => h) (Or.inl ⟨by rfl, ?_⟩) (by assumption) ?_
      rotate_left
      · (intro w hSw; (try dsimp only at hSw); go_simp; try (with_reducible rfl))
      try simp only [Act.put, List.setIfInBounds_toArray, List.set_cons_zero, List.set_cons_succ, List.getElem_toArray, List.getElem_cons_zero, List.getElem_cons_succ]
      refine wpAnyH_take (i := 1) (v := ?_) rfl (by kernel_rfl) (by kernel_rfl) (by kernel_rfl) (fun _ _ _ h => h) (Or.inl ⟨by rfl, ?_⟩) (by assumption) ?_
      rotate_left
      · (intro w hSw; (try dsimp only at hSw); go_simp; try (with_reducible rfl))
      try simp only [Act.put, List.setIfInBounds_toArray, List.set_cons_zero, List.set_cons_succ, List.getElem_toArray, List.getElem_cons_zero, List.getElem_cons_succ]
      refine wpAnyH_take (i := 2) (v := ?_) rfl (by kernel_rfl) (by kernel_rfl) (by kernel_rfl) (fun _ _ _ h => h) (Or.inl ⟨by rfl, ?_⟩) (by assumption) ?_
      rotate_left
      · (intro w hSw; (try dsimp only at hSw); go_simp; try (with_reducible rfl))
      try simp only [Act.put, List.setIfInBounds_toArray, List.set_cons_zero, List.set_cons_succ, List.getElem_toArray, List.getElem_cons_zero, List.getElem_cons_succ]
      refine wpAnyH_take (i := 3) (v := ?_) rfl (by kernel_rfl) (by kernel_rfl) (by kernel_rfl) (fun _ _ _ h => h) (Or.inl ⟨by rfl, ?_⟩) (by assumption) ?_
      rotate_left
      · (intro w hSw; (try dsimp only at hSw); go_simp; try (with_reducible rfl))
      try simp only [Act.put, List.setIfInBounds_toArray, List.set_cons_zero, List.set_cons_succ, List.getElem_toArray, List.getElem_cons_zero, List.getElem_cons_succ]
      refine wpAnyH_take (i := 4) (v := ?_) rfl (by kernel_rfl) (by kernel_rfl) (by kernel_rfl) (fun _ _ _ h => h) (Or.inl ⟨by rfl, ?_⟩) (by assumption) ?_
      rotate_left
      · (intro w hSw; (try dsimp only at hSw); go_simp; try (with_reducible rfl))
      try simp only [Act.put, List.setIfInBounds_toArray, List.set_cons_zero, List.set_cons_succ, List.getElem_toArray, List.getElem_cons_zero, List.getElem_cons_succ]
      refine wpAnyH_take (i := 5) (v := ?_) rfl (by kernel_rfl) (by kernel_rfl) (by kernel_rfl) (fun _ _ _ h => h) (Or.inl ⟨by rfl, ?_⟩) (by assumption) ?_
      rotate_left
      · (intro w hSw; (try dsimp only at hSw); go_simp; try (with_reducible rfl))
      try simp only [Act.put, List.setIfInBounds_toArray, List.set_cons_zero, List.set_cons_succ, List.getElem_toArray, List.getElem_cons_zero, List.getElem_cons_succ]
      refine wpAnyH_take (i := 6) (v := ?_) rfl (by kernel_rfl) (by kernel_rfl) (by kernel_rfl) (fun _ _ _ h => h) (Or.inl ⟨by rfl, ?_⟩) (by assumption) ?_
      rotate_left
      · (intro w hSw; (try dsimp only at hSw); go_simp; try (with_reducible rfl))
      try simp only [Act.put, List.setIfInBounds_toArray, List.set_cons_zero, List.set_cons_succ, List.getElem_toArray, List.getElem_cons_zero, List.getElem_cons_succ]
      refine wpAnyH_take (i := 7) (v := ?_) rfl (by kernel_rfl) (by kernel_rfl) (by kernel_rfl) (fun _ _ _ h => h) (Or.inl ⟨by rfl, ?_⟩) (by assumption) ?_
      rotate_left
      · (intro w hSw; (try dsimp only at hSw); go_simp; try (with_reducible rfl))
      try simp only [Act.put, List.setIfInBounds_toArray, List.set_cons_zero, List.set_cons_succ, List.getElem_toArray, List.getElem_cons_zero, List.getElem_cons_succ]
      refine wpAnyH_take (i := 8) (v := ?_) rfl (by kernel_rfl) (by kernel_rfl) (by kernel_rfl) (fun _ _ _ h => h) (Or.inl ⟨by rfl, ?_⟩) (by assumption) ?_
      rotate_left
      · (intro w hSw; (try dsimp only at hSw); go_simp; try (with_reducible rfl))
      try simp only [Act.put, List.setIfInBounds_toArray, List.set_cons_zero, List.set_cons_succ, List.getElem_toArray, List.getElem_cons_zero, List.getElem_cons_succ]
      refine wpAnyH_take (i := 9) (v := ?_) rfl (by kernel_rfl) (by kernel_rfl) (by kernel_rfl) (fun _ _ _ h => h) (Or.inl ⟨by rfl, ?_⟩) (by assumption) ?_
      rotate_left
      · (intro w hSw; (try dsimp only at hSw); go_simp; try (with_reducible rfl))
      try simp only [Act.put, List.setIfInBounds_toArray, List.set_cons_zero, List.set_cons_succ, List.getElem_toArray, List.getElem_cons_zero, List.getElem_cons_succ]
      refine wpAnyH_take (i := 10) (v := ?_) rfl (by kernel_rfl) (by kernel_rfl) (by kernel_rfl) (fun _ _ _ h => h) (Or.inl ⟨by rfl, ?_⟩) (by assumption) ?_
      rotate_left
      · (intro w hSw; (try dsimp only at hSw); go_simp; try (with_reducible rfl))
      try simp only [Act.put, List.setIfInBounds_toArray, List.set_cons_zero, List.set_cons_succ, List.getElem_toArray, List.getElem_cons_zero, List.getElem_cons_succ]
      refine wpAnyH_ready (rs := [11]) (by kernel_rfl) (by simp) ?_
      refine AllReadyH.cons rfl (fun K hK => ?_) AllReadyH.nil
      go_simp
      refine HC.out.mono ?_
      clear HC
      intro e w5 hp
      obtain ⟨rfl, F', ot, it, -, -, -⟩ := hp.law HD.out.1 HD.out.2
      obtain ⟨HA⟩ : Nonempty (Hid (In0 B E w w5 ∧ Own B w5 tt _ 60 F')) := ⟨⟨it, ot⟩⟩
      clear ot it hp
      refine hK.out _ _ ?_ (fun hHeld => ?_)
      · exact HS.out _ HA.out.1.below
      clear hK K
      try simp only [Act.put, List.setIfInBounds_toArray, List.set_cons_zero, List.set_cons_succ, List.getElem_toArray, List.getElem_cons_zero, List.getElem_cons_succ]
      refine wpAnyH_done (by kernel_rfl) ?_ _
      refine NoPanic.normal ?_
      clear hHeld
      go_wp2_with fail
      go_roundw
      case rel => first | exact ⟨k + 1, _, F', by go_num, HA, by omega⟩ | ((repeat apply Exists.intro); exact ⟨⟨k + 1, _, F', by go_num, HA, by omega⟩, rfl⟩)
      case measure => simp [intOf]; omega
    · as_aux_lemma =>
      obtain rfl : k = L.length := by omega
      clear hlt hkl
      have hMl := HK.out.2.1.le
      have hM60 : M.length ≤ 60 := by omega
      obtain ⟨HC⟩ : Nonempty (Hid (Calls _ _ _ _ _)) := ⟨all_any tt M 60 F wr HK.out.2.1⟩
      go_wp2_with fail
      refine HC.out.mono ?_
      clear HC
      rintro e w3 ⟨v, rfl, hown, hb3⟩
      obtain ⟨q, c, rfl, -, -, hq⟩ := own_ents hown
      obtain ⟨H3⟩ : Nonempty (Hid (In0 B E w w3 ∧ Own B w3 tt M 60 F ∧ Ents w3 q M)) := ⟨⟨HK.out.1.all hb3, HK.out.2.all hb3, hq⟩⟩
      clear hown hb3 hq
      obtain ⟨HC⟩ : Nonempty (Hid (Calls _ _ _ _ _)) := ⟨find_any tt M 60 a F E w3 H3.out.2.1.1 H3.out.1.errs⟩
      go_wp2_with fail
      refine HC.out.mono ?_
      clear HC
      rintro e w4 ⟨o, hl1, rfl, hb4⟩
      obtain ⟨⟨⟨p0, p1⟩, p2⟩, hp⟩ : ∃ x, Hid (accE o = x) := ⟨_, show _ = _ from rfl⟩
      rw [show accE o = ((p0, p1), p2) from hp.out]
      simp only
      have hbA := hb4.trans ((below_alloc w4 (.cells #[.int .i64 p0, .int .i64 p1] 36)).mono hb4.size)
      have hrA := Go.heap_alloc_new w4 (.cells #[.int .i64 p0, .int .i64 p1] 36)
      obtain ⟨HFAR⟩ : Nonempty (Hid (∀ b ∈ F, b < w4.heap.size)) := ⟨(H3.out.2.1.all hb4).1.lt⟩
      obtain ⟨HBS⟩ : Nonempty (Hid (B ≤ w4.heap.size)) := ⟨(H3.out.1.all hb4).size⟩
      obtain ⟨H4⟩ : Nonempty (Hid (In0 B E w (w4.alloc (.cells #[.int .i64 p0, .int .i64 p1] 36)) ∧ Own B (w4.alloc (.cells #[.int .i64 p0, .int .i64 p1] 36)) tt M 60 F ∧ Ents (w4.alloc (.cells #[.int .i64 p0, .int .i64 p1] 36)) q M ∧ (w4.alloc (.cells #[.int .i64 p0, .int .i64 p1] 36)).heap[w4.heap.size]? = some (.cells #[.int .i64 p0, .int .i64 p1] 36 (0, 0)))) := ⟨⟨H3.out.1.all hbA, H3.out.2.1.all hbA, H3.out.2.2.below hbA, hrA⟩⟩
      obtain ⟨HLO⟩ : Nonempty (Hid (Longest M a o)) := ⟨hl1⟩
      clear hl1 hb4 hbA hrA H3 HK
      obtain ⟨s1, hs1⟩ : ∃ x, Hid (w4.heap.size = x) := ⟨_, show _ = _ from rfl⟩
      obtain ⟨W4, hW4⟩ : ∃ x, Hid (w4.alloc (.cells #[.int .i64 p0, .int .i64 p1] 36) = x) := ⟨_, show _ = _ from rfl⟩
      rw [show w4.alloc (.cells #[.int .i64 p0, .int .i64 p1] 36) = W4 from hW4.out, show w4.heap.size = s1 from hs1.out] at H4
      rw [show w4.heap.size = s1 from hs1.out] at HFAR HBS
      obtain ⟨is, his⟩ : ∃ x, Hid (o.isSome = x) := ⟨_, show _ = _ from rfl⟩
      rw [show o.isSome = is from his.out]
      go_upto_region 13 with fail
      rw [show w4.alloc (.cells #[.int .i64 p0, .int .i64 p1] 36) = W4 from hW4.out, show w4.heap.size = s1 from hs1.out]
      go_wp2_with fail
      go_loopw [4, 12, 13, 14] (fun _ th i _ wr2 => ∃ (k : Nat) (t : Bool), i = .int .i64 k ∧ th = .bool t ∧ Hid (t = thereB M k ((p0, p1), p2) a ∧ Below W4.heap.size W4 wr2) ∧ k ≤ M.length) (fun _ _ i _ _ => M.length - (intOf i).toNat)
      case atStart => exact ⟨0, false, rfl, rfl, ⟨by simp [thereB], Below.refl _ _⟩, Nat.zero_le _⟩
      case round =>
        obtain ⟨k, t, rfl, rfl, HT, hkl⟩ := hrel
        by_cases hlt : k < M.length
        · as_aux_lemma =>
          have q3 : (k : Int) < M.length := by omega
          obtain ⟨b, o', hq', c0, c1, c2⟩ := H4.out.2.2.1 k hlt
          subst hq'
          obtain ⟨⟨⟨x0, x1⟩, x2⟩, hx⟩ : ∃ x, Hid (M[k] = x) := ⟨_, show _ = _ from rfl⟩
          rw [hx.out] at c0 c1 c2
          simp only at c0 c1 c2
          obtain ⟨HS⟩ : Nonempty (Hid (∀ w', Below W4.heap.size W4 w' → w'.cell? ⟨b, o' + k * 3, none⟩ = some (.int .i64 x0) ∧ w'.cell? ⟨b, o' + k * 3 + 1, none⟩ = some (.int .i64 x1) ∧ w'.cell? ⟨b, o' + k * 3 + 2, none⟩ = some (.int .i64 x2) ∧ w'.cell? ⟨s1, 0, none⟩ = some (.int .i64 p0) ∧ w'.cell? ⟨s1, 1, none⟩ = some (.int .i64 p1))) := ⟨fun w' hb => ⟨cell_kept hb c0, cell_kept hb c1, cell_kept hb c2, cell_kept hb (pre_cells H4.out.2.2.2).1, cell_kept hb (pre_cells H4.out.2.2.2).2.1⟩⟩
          obtain ⟨HJ⟩ : Nonempty (Hid (Ents W4 (some ⟨b, o', none⟩) M ∧ Srt M ∧ Rts M)) := ⟨⟨H4.out.2.2.1, H4.out.2.1.1.srt, H4.out.2.1.1.rts⟩⟩
          clear c0 c1 c2
          obtain ⟨HE⟩ : Nonempty (Hid (∀ w', Below W4.heap.size W4 w' → FibErrs w' E)) := ⟨fun w' hb => (H4.out.1.all hb).errs⟩
          go_wp2_with fail
          go_cut [80] from 58 to 125 (fun s w' => ∃ X : World, s = .bool false ∧ Hid (Below W4.heap.size W4 X) ∧ X = w')
          case first =>
            as_aux_lemma =>
            by_cases hk0 : k = 0
            · have hk0' : decide (0 < (k : Int)) = false := decide_eq_false (by omega)
              have hk1' : decide (0 < k) = false := decide_eq_false (by omega)
              clear hk0
              go_quiet (fail)
              go_wp2_with fail
              go_meet
              exact ⟨_, rfl, below_drewN HT.out.2 _, rfl⟩
            · obtain ⟨j, hj⟩ : ∃ j, j + 1 = k := ⟨k - 1, by omega⟩
              have hjl : j < M.length := by omega
              have hk0' : decide (0 < (k : Int)) = true := decide_eq_true (by omega)
              have hk1' : decide (0 < k) = true := decide_eq_true (by omega)
              have q7 : (k : Int) - 1 = (j : Int) := by omega
              have q8 : (j : Int) < M.length := by omega
              have hkp : 0 < k := by omega
              have hwj : IntKind.i64.wrap (j : Int) = (j : Int) := wraps_i64 _ (by omega) (by omega)
              obtain ⟨b', o2, he, d0, d1, d2⟩ := HJ.out.1 j hjl
              simp only [Option.some.injEq, Addr.mk.injEq, and_true] at he
              obtain ⟨rfl, rfl⟩ := he
              obtain ⟨⟨⟨y0, y1⟩, y2⟩, hy⟩ : ∃ x, Hid (M[j] = x) := ⟨_, show _ = _ from rfl⟩
              rw [hy.out] at d0 d1 d2
              simp only at d0 d1 d2
              obtain ⟨HS2⟩ : Nonempty (Hid (∀ w', Below W4.heap.size W4 w' → w'.cell? ⟨b, o' + j * 3, none⟩ = some (.int .i64 y0) ∧ w'.cell? ⟨b, o' + j * 3 + 1, none⟩ = some (.int .i64 y1))) := ⟨fun w' hb => ⟨cell_kept hb d0, cell_kept hb d1⟩⟩
              have hless : lessB y0 y1 x0 x1 = true := by have := less_next HJ.out.2.1 HJ.out.2.2 hlt hj hjl; rw [hx.out, hy.out] at this; exact this
              have hbD : Below W4.heap.size W4 wr.drew := HT.out.2.drew
              obtain ⟨HC⟩ : Nonempty (Hid (Calls _ _ _ _ _)) := ⟨less_any y0 y1 x0 x1 _ _ _ _ (HE.out _ hbD).ip⟩
              rw [hless] at HC
              obtain ⟨HBD⟩ : Nonempty (Hid (Below W4.heap.size W4 wr.drew)) := ⟨hbD⟩
              clear d0 d1 d2 hless hk0 hbD hj
              refine wp_region_noPanic ?_
              refine wp_region_held_drew (S := (fun w' => w'.cell? ⟨b, o' + k * 3, none⟩ = some (.int .i64 x0) ∧ w'.cell? ⟨b, o' + k * 3 + 1, none⟩ = some (.int .i64 x1) ∧ w'.cell? ⟨b, o' + j * 3, none⟩ = some (.int .i64 y0) ∧ w'.cell? ⟨b, o' + j * 3 + 1, none⟩ = some (.int .i64 y1))) (by kernel_rfl) ?_ (fun hHeld => ?_)
              · exact ⟨(HS.out _ HBD.out).1, (HS.out _ HBD.out).2.1, (HS2.out _ HBD.out).1, (HS2.out _ HBD.out).2⟩
              refine wpAnyH_take (i := 0) (v := ?_) rfl (by kernel_rfl) (by kernel_rfl) (by kernel_rfl) (fun _ _ _ h => h) (Or.inl ⟨by rfl, ?_⟩) (by assumption) ?_
              rotate_left
              · (intro w hSw; (try dsimp only at hSw); go_simp; try (with_reducible rfl))
              try simp only [Act.put, List.setIfInBounds_toArray, List.set_cons_zero, List.set_cons_succ, List.getElem_toArray, List.getElem_cons_zero, List.getElem_cons_succ]
              refine wpAnyH_take (i := 1) (v := ?_) rfl (by kernel_rfl) (by kernel_rfl) (by kernel_rfl) (fun _ _ _ h => h) (Or.inl ⟨by rfl, ?_⟩) (by assumption) ?_
              rotate_left
              · (intro w hSw; (try dsimp only at hSw); go_simp; try (with_reducible rfl))
              try simp only [Act.put, List.setIfInBounds_toArray, List.set_cons_zero, List.set_cons_succ, List.getElem_toArray, List.getElem_cons_zero, List.getElem_cons_succ]
              refine wpAnyH_take (i := 2) (v := ?_) rfl (by kernel_rfl) (by kernel_rfl) (by kernel_rfl) (fun _ _ _ h => h) (Or.inl ⟨by rfl, ?_⟩) (by assumption) ?_
              rotate_left
              · (intro w hSw; (try dsimp only at hSw); go_simp; try (with_reducible rfl))
              try simp only [Act.put, List.setIfInBounds_toArray, List.set_cons_zero, List.set_cons_succ, List.getElem_toArray, List.getElem_cons_zero, List.getElem_cons_succ]
              refine wpAnyH_take (i := 3) (v := ?_) rfl (by kernel_rfl) (by kernel_rfl) (by kernel_rfl) (fun _ _ _ h => h) (Or.inl ⟨by rfl, ?_⟩) (by assumption) ?_
              rotate_left
              · (intro w hSw; (try dsimp only at hSw); go_simp; try (with_reducible rfl))
              try simp only [Act.put, List.setIfInBounds_toArray, List.set_cons_zero, List.set_cons_succ, List.getElem_toArray, List.getElem_cons_zero, List.getElem_cons_succ]
              refine wpAnyH_take (i := 4) (v := ?_) rfl (by kernel_rfl) (by kernel_rfl) (by kernel_rfl) (fun _ _ _ h => h) (Or.inl ⟨by rfl, ?_⟩) (by assumption) ?_
              rotate_left
              · (intro w hSw; (try dsimp only at hSw); go_simp; try (with_reducible rfl))
              try simp only [Act.put, List.setIfInBounds_toArray, List.set_cons_zero, List.set_cons_succ, List.getElem_toArray, List.getElem_cons_zero, List.getElem_cons_succ]
              refine wpAnyH_take (i := 5) (v := ?_) rfl (by kernel_rfl) (by kernel_rfl) (by kernel_rfl) (fun _ _ _ h => h) (Or.inl ⟨by rfl, ?_⟩) (by assumption) ?_
              rotate_left
              · (intro w hSw; (try dsimp only at hSw); go_simp; try (with_reducible rfl))
              try simp only [Act.put, List.setIfInBounds_toArray, List.set_cons_zero, List.set_cons_succ, List.getElem_toArray, List.getElem_cons_zero, List.getElem_cons_succ]
              refine wpAnyH_take (i := 6) (v := ?_) rfl (by kernel_rfl) (by kernel_rfl) (by kernel_rfl) (fun _ _ _ h => h) (Or.inl ⟨by rfl, ?_⟩) (by assumption) ?_
              rotate_left
              · (intro w hSw; (try dsimp only at hSw); go_simp; try (with_reducible rfl))
              try simp only [Act.put, List.setIfInBounds_toArray, List.set_cons_zero, List.set_cons_succ, List.getElem_toArray, List.getElem_cons_zero, List.getElem_cons_succ]
              refine wpAnyH_take (i := 7) (v := ?_) rfl (by kernel_rfl) (by kernel_rfl) (by kernel_rfl) (fun _ _ _ h => h) (Or.inl ⟨by rfl, ?_⟩) (by assumption) ?_
              rotate_left
              · (intro w hSw; (try dsimp only at hSw); go_simp; try (with_reducible rfl))
              try simp only [Act.put, List.setIfInBounds_toArray, List.set_cons_zero, List.set_cons_succ, List.getElem_toArray, List.getElem_cons_zero, List.getElem_cons_succ]
              refine wpAnyH_take (i := 8) (v := ?_) rfl (by kernel_rfl) (by kernel_rfl) (by kernel_rfl) (fun _ _ _ h => h) (Or.inl ⟨by rfl, ?_⟩) (by assumption) ?_
              rotate_left
              · (intro w hSw; (try dsimp only at hSw); go_simp; try (with_reducible rfl))
              try simp only [Act.put, List.setIfInBounds_toArray, List.set_cons_zero, List.set_cons_succ, List.getElem_toArray, List.getElem_cons_zero, List.getElem_cons_succ]
              refine wpAnyH_take (i := 9) (v := ?_) rfl (by kernel_rfl) (by kernel_rfl) (by kernel_rfl) (fun _ _ _ h => h) (Or.inl ⟨by rfl, ?_⟩) (by assumption) ?_
              rotate_left
              · (intro w hSw; (try dsimp only at hSw); go_simp; try (with_reducible rfl))
              try simp only [Act.put, List.setIfInBounds_toArray, List.set_cons_zero, List.set_cons_succ, List.getElem_toArray, List.getElem_cons_zero, List.getElem_cons_succ]
              refine wpAnyH_take (i := 10) (v := ?_) rfl (by kernel_rfl) (by kernel_rfl) (by kernel_rfl) (fun _ _ _ h => h) (Or.inl ⟨by rfl, ?_⟩) (by assumption) ?_
              rotate_left
              · (intro w hSw; (try dsimp only at hSw); go_simp; try (with_reducible rfl))
              try simp only [Act.put, List.setIfInBounds_toArray, List.set_cons_zero, List.set_cons_succ, List.getElem_toArray, List.getElem_cons_zero, List.getElem_cons_succ]
              refine wpAnyH_take (i := 11) (v := ?_) rfl (by kernel_rfl) (by kernel_rfl) (by kernel_rfl) (fun _ _ _ h => h) (Or.inl ⟨by rfl, ?_⟩) (by assumption) ?_
              rotate_left
              · (intro w hSw; (try dsimp only at hSw); go_simp; try (with_reducible rfl))
              try simp only [Act.put, List.setIfInBounds_toArray, List.set_cons_zero, List.set_cons_succ, List.getElem_toArray, List.getElem_cons_zero, List.getElem_cons_succ]
              refine wpAnyH_take (i := 12) (v := ?_) rfl (by kernel_rfl) (by kernel_rfl) (by kernel_rfl) (fun _ _ _ h => h) (Or.inl ⟨by rfl, ?_⟩) (by assumption) ?_
              rotate_left
              · (intro w hSw; (try dsimp only at hSw); go_simp; try (with_reducible rfl))
              try simp only [Act.put, List.setIfInBounds_toArray, List.set_cons_zero, List.set_cons_succ, List.getElem_toArray, List.getElem_cons_zero, List.getElem_cons_succ]
              refine wpAnyH_take (i := 13) (v := ?_) rfl (by kernel_rfl) (by kernel_rfl) (by kernel_rfl) (fun _ _ _ h => h) (Or.inl ⟨by rfl, ?_⟩) (by assumption) ?_
              rotate_left
              · (intro w hSw; (try dsimp only at hSw); go_simp; try (with_reducible rfl))
              try simp only [Act.put, List.setIfInBounds_toArray, List.set_cons_zero, List.set_cons_succ, List.getElem_toArray, List.getElem_cons_zero, List.getElem_cons_succ]
              refine wpAnyH_ready (rs := [14]) (by kernel_rfl) (by simp) ?_
              refine AllReadyH.cons rfl (fun K hK => ?_) AllReadyH.nil
              go_simp
              refine HC.out.mono ?_
              clear HC
              rintro e w5 ⟨rfl, hb5⟩
              obtain ⟨HB5⟩ : Nonempty (Hid (Below W4.heap.size W4 w5)) := ⟨HBD.out.trans (hb5.mono HBD.out.size)⟩
              clear hb5
              refine hK.out _ _ ?_ (fun hHeld => ?_)
              · exact ⟨(HS.out _ HB5.out).1, (HS.out _ HB5.out).2.1, (HS2.out _ HB5.out).1, (HS2.out _ HB5.out).2⟩
              clear hK K
              try simp only [Act.put, List.setIfInBounds_toArray, List.set_cons_zero, List.set_cons_succ, List.getElem_toArray, List.getElem_cons_zero, List.getElem_cons_succ]
              refine wpAnyH_take (i := 15) (v := ?_) rfl (by kernel_rfl) (by kernel_rfl) (by kernel_rfl) (fun _ _ _ h => h) (Or.inl ⟨by rfl, ?_⟩) (by assumption) ?_
              rotate_left
              · (intro w hSw; (try dsimp only at hSw); go_simp; try (with_reducible rfl))
              try simp only [Act.put, List.setIfInBounds_toArray, List.set_cons_zero, List.set_cons_succ, List.getElem_toArray, List.getElem_cons_zero, List.getElem_cons_succ]
              refine wpAnyH_take (i := 16) (v := ?_) rfl (by kernel_rfl) (by kernel_rfl) (by kernel_rfl) (fun _ _ _ h => h) (Or.inl ⟨by rfl, ?_⟩) (by assumption) ?_
              rotate_left
              · (intro w hSw; (try dsimp only at hSw); go_simp; try (with_reducible rfl))
              try simp only [Act.put, List.setIfInBounds_toArray, List.set_cons_zero, List.set_cons_succ, List.getElem_toArray, List.getElem_cons_zero, List.getElem_cons_succ]
              refine wpAnyH_done (by kernel_rfl) ?_ _
              refine NoPanic.normal ?_
              clear hHeld
              go_wp2_with fail
              go_meet
              exact ⟨_, rfl, HB5, rfl⟩
          case rest =>
            as_aux_lemma =>
            obtain ⟨w5, rfl, HB5, hX⟩ := hcut
            subst hX
            obtain ⟨c0, c1, c2, c3, c4⟩ := HS.out _ HB5.out
            obtain ⟨hb, hhb⟩ : ∃ x, Hid (hasB x0 x1 a = x) := ⟨_, show _ = _ from rfl⟩
            obtain ⟨HC⟩ : Nonempty (Hid (Calls _ _ _ _ _)) := ⟨has_any x0 x1 a _ _ _ _ (HE.out _ HB5.out).ip⟩
            rw [show hasB x0 x1 a = hb from hhb.out] at HC
            go_wp2_with fail
            refine HC.out.mono ?_
            clear HC
            rintro e w6 ⟨rfl, hb6⟩
            obtain ⟨HB6⟩ : Nonempty (Hid (Below W4.heap.size W4 w6)) := ⟨HB5.out.trans (hb6.mono HB5.out.size)⟩
            clear hb6 c0 c1 c2 c3 c4 HB5
            obtain ⟨c0, c1, c2, c3, c4⟩ := HS.out _ HB6.out
            obtain ⟨HN⟩ : Nonempty (Hid (hb = true → is = true ∧ x1 ≤ p1)) := ⟨fun h => by
              have := longest_no HLO.out (List.getElem_mem hlt) (by rw [hx.out]; exact hhb.out.trans h)
              rw [hx.out, hp.out] at this; rw [← his.out]; exact this⟩
            obtain ⟨HTS⟩ : Nonempty (Hid (thereB M (k + 1) ((p0, p1), p2) a = (t || (decide (((x0, x1), x2) = ((p0, p1), p2)) && hb)))) := ⟨by
              rw [Hid, there_step hlt, ← HT.out.1, hx.out]; simp only; rw [hhb.out]⟩
            go_wp2_with fail
            go_cut [103] from 58 to 125 (fun s w' => ∃ X : World, s = .bool false ∧ Hid (Below W4.heap.size W4 X) ∧ X = w')
            case first =>
              as_aux_lemma =>
              cases hb with
              | false =>
                go_quiet (fail)
                go_wp2_with fail
                go_meet
                exact ⟨_, rfl, below_drewN HB6.out _, rfl⟩
              | true =>
                obtain ⟨rfl, hle⟩ := HN.out rfl
                have hgt : decide (p1 < x1) = false := decide_eq_false (by omega)
                go_quiet (fail)
                go_wp2_with fail
                go_meet
                exact ⟨_, rfl, below_drewN HB6.out _, rfl⟩
            case rest =>
              as_aux_lemma =>
              obtain ⟨w7, rfl, HB7, hX⟩ := hcut
              subst hX
              clear c0 c1 c2 c3 c4 HB6
              obtain ⟨c0, c1, c2, c3, c4⟩ := HS.out _ HB7.out
              obtain ⟨t', ht'⟩ : ∃ x, Hid ((t || (decide (((x0, x1), x2) = ((p0, p1), p2)) && hb)) = x) := ⟨_, show _ = _ from rfl⟩
              obtain ⟨HTF⟩ : Nonempty (Hid (t' = thereB M (k + 1) ((p0, p1), p2) a)) := ⟨by rw [Hid, HTS.out]; exact ht'.out.symm⟩
              go_wp2_with fail
              have ht := ht'.out
              cases t with
              | true =>
                obtain rfl : true = t' := by simpa using ht
                go_quiet (fail)
                go_wp2_with fail
                go_roundw
                case rel => first | exact ⟨k + 1, true, by go_num, rfl, ⟨HTF.out, below_drewN HB7.out _⟩, by omega⟩ | ((repeat apply Exists.intro); exact ⟨⟨k + 1, true, by go_num, rfl, ⟨HTF.out, below_drewN HB7.out _⟩, by omega⟩, rfl⟩)
                case measure => simp [intOf]; omega
              | false =>
                by_cases e0 : x0 = p0
                · by_cases e1 : x1 = p1
                  · by_cases e2 : x2 = p2
                    · obtain rfl : hb = t' := by subst e0 e1 e2; simpa using ht
                      have e2' : (x2 == p2) = true := by simpa using e2
                      subst e0 e1
                      clear e2 ht
                      cases hb with
                      | true =>
                        go_quiet (fail)
                        go_wp2_with fail
                        go_roundw
                        case rel => first | exact ⟨k + 1, true, by go_num, rfl, ⟨HTF.out, below_drewN HB7.out _⟩, by omega⟩ | ((repeat apply Exists.intro); exact ⟨⟨k + 1, true, by go_num, rfl, ⟨HTF.out, below_drewN HB7.out _⟩, by omega⟩, rfl⟩)
                        case measure => simp [intOf]; omega
                      | false =>
                        go_quiet (fail)
                        go_wp2_with fail
                        go_roundw
                        case rel => first | exact ⟨k + 1, false, by go_num, rfl, ⟨HTF.out, below_drewN HB7.out _⟩, by omega⟩ | ((repeat apply Exists.intro); exact ⟨⟨k + 1, false, by go_num, rfl, ⟨HTF.out, below_drewN HB7.out _⟩, by omega⟩, rfl⟩)
                        case measure => simp [intOf]; omega
                    · obtain rfl : false = t' := by simpa [e2] using ht
                      have e2' : (x2 == p2) = false := by simpa using e2
                      subst e0 e1
                      clear ht
                      go_quiet (fail)
                      go_wp2_with fail
                      go_roundw
                      case rel => first | exact ⟨k + 1, false, by go_num, rfl, ⟨HTF.out, below_drewN HB7.out _⟩, by omega⟩ | ((repeat apply Exists.intro); exact ⟨⟨k + 1, false, by go_num, rfl, ⟨HTF.out, below_drewN HB7.out _⟩, by omega⟩, rfl⟩)
                      case measure => simp [intOf]; omega
                  · obtain rfl : false = t' := by simpa [e1] using ht
                    have e1' : (x1 == p1) = false := by simpa using e1
                    subst e0
                    clear ht
                    go_quiet (fail)
                    go_wp2_with fail
                    go_roundw
                    case rel => first | exact ⟨k + 1, false, by go_num, rfl, ⟨HTF.out, below_drewN HB7.out _⟩, by omega⟩ | ((repeat apply Exists.intro); exact ⟨⟨k + 1, false, by go_num, rfl, ⟨HTF.out, below_drewN HB7.out _⟩, by omega⟩, rfl⟩)
                    case measure => simp [intOf]; omega
                · obtain rfl : false = t' := by simpa [e0] using ht
                  have e0' : (x0 == p0) = false := by simpa using e0
                  clear ht
                  go_quiet (fail)
                  go_wp2_with fail
                  go_roundw
                  case rel => first | exact ⟨k + 1, false, by go_num, rfl, ⟨HTF.out, below_drewN HB7.out _⟩, by omega⟩ | ((repeat apply Exists.intro); exact ⟨⟨k + 1, false, by go_num, rfl, ⟨HTF.out, below_drewN HB7.out _⟩, by omega⟩, rfl⟩)
                  case measure => simp [intOf]; omega
        · as_aux_lemma =>
          obtain rfl : k = M.length := by omega
          clear hlt hkl
          obtain rfl : t = is := by rw [HT.out.1, ← show accE o = ((p0, p1), p2) from hp.out, there_end HLO.out]; exact his.out
          obtain ⟨H5⟩ : Nonempty (Hid (In0 B E w wr ∧ Own B wr tt M 60 F ∧ Ents wr q M ∧ wr.heap[s1]? = some (.cells #[.int .i64 p0, .int .i64 p1] 36 (0, 0)) ∧ s1 < wr.heap.size)) := ⟨by
            have hb := HT.out.2
            have hs := (Array.getElem?_eq_some_iff.1 H4.out.2.2.2).1
            exact ⟨H4.out.1.all hb, H4.out.2.1.all hb, H4.out.2.2.1.below hb, by rw [hb.block s1 hs]; exact H4.out.2.2.2, Nat.lt_of_lt_of_le hs hb.size⟩⟩
          clear HT H4
          obtain ⟨HC⟩ : Nonempty (Hid (Calls _ _ _ _ _)) := ⟨new_any 60 60 (show min (max (60 : Int) 0) 60 = 60 by decide) wr⟩
          have hne : (t != t) = false := by simp
          go_wp2_with fail
          refine HC.out.mono ?_
          clear HC
          rintro e w6 ⟨rfl, it, hb6⟩
          obtain ⟨tu, htu⟩ : ∃ b, Hid (wr.heap.size = b) := ⟨_, show _ = _ from rfl⟩
          obtain ⟨H6⟩ : Nonempty (Hid (In0 B E w w6 ∧ Own B w6 tt M 60 F ∧ Ents w6 q M ∧ w6.heap[s1]? = some (.cells #[.int .i64 p0, .int .i64 p1] 36 (0, 0)) ∧ Own B w6 tu [] 60 [tu] ∧ s1 < tu ∧ ExLaid w6 E)) := ⟨by
            refine ⟨H5.out.1.all hb6, H5.out.2.1.all hb6, H5.out.2.2.1.below hb6, by rw [hb6.block s1 H5.out.2.2.2.2]; exact H5.out.2.2.2.1, by rw [← htu.out]; exact own_new it H5.out.1.size, by rw [← htu.out]; exact H5.out.2.2.2.2, ?_⟩
            exact HL.out.2.below (H5.out.1.all hb6).below hw⟩
          rw [show wr.heap.size = tu from htu.out]
          clear it hb6 H5
          obtain ⟨HC⟩ : Nonempty (Hid (Calls _ _ _ _ _)) := ⟨set_any tu [] M 60 [tu] E q c w6 H6.out.2.2.2.2.1.1 H6.out.2.2.1 H6.out.1.errs H6.out.2.2.2.2.2.2 (fun b hb => Nat.le_trans hw (H6.out.2.2.2.2.1.2 b hb)) (Nat.le_trans hw H6.out.1.size) (by omega)⟩
          go_wp2_with fail
          refine HC.out.mono ?_
          clear HC
          intro e w7 hsp
          obtain ⟨rfl, Fu, ou, iu, -, ku, su⟩ := (set_all H6.out.2.1.1.srt H6.out.2.1.1.rts hM60 hsp).law H6.out.1 H6.out.2.2.2.2.1
          obtain ⟨H7⟩ : Nonempty (Hid (In0 B E w w7 ∧ Own B w7 tt M 60 F ∧ Own B w7 tu M 60 Fu ∧ w7.heap[s1]? = some (.cells #[.int .i64 p0, .int .i64 p1] 36 (0, 0)))) := ⟨by
            have hl := H6.out.2.2.2.2.2.1
            refine ⟨iu, H6.out.2.1.beside ku (fun b hb hm => ?_), ou, ku.heap H6.out.2.2.2.1 (by simp; omega)⟩
            have := HFAR.out b hb; simp at hm; omega⟩
          clear ou iu ku su hsp H6
          obtain ⟨HC⟩ : Nonempty (Hid (Calls _ _ _ _ _)) := ⟨find_any tu M 60 a Fu E w7 H7.out.2.2.1.1 H7.out.1.errs⟩
          go_wp2_with fail
          refine HC.out.mono ?_
          clear HC
          rintro e w8 ⟨o2, hl2, rfl, hb8⟩
          obtain rfl : o = o2 := longest_unique H7.out.2.1.1.srt H7.out.2.1.1.rts HLO.out hl2
          rw [show accE o = ((p0, p1), p2) from hp.out, show o.isSome = t from his.out]
          simp only
          have hbA := hb8.trans ((below_alloc w8 (.cells #[.int .i64 p0, .int .i64 p1] 36)).mono hb8.size)
          have hrA := Go.heap_alloc_new w8 (.cells #[.int .i64 p0, .int .i64 p1] 36)
          obtain ⟨H8⟩ : Nonempty (Hid (In0 B E w (w8.alloc (.cells #[.int .i64 p0, .int .i64 p1] 36)) ∧ Own B (w8.alloc (.cells #[.int .i64 p0, .int .i64 p1] 36)) tt M 60 F ∧ Own B (w8.alloc (.cells #[.int .i64 p0, .int .i64 p1] 36)) tu M 60 Fu ∧ (w8.alloc (.cells #[.int .i64 p0, .int .i64 p1] 36)).heap[s1]? = some (.cells #[.int .i64 p0, .int .i64 p1] 36 (0, 0)) ∧ (w8.alloc (.cells #[.int .i64 p0, .int .i64 p1] 36)).heap[w8.heap.size]? = some (.cells #[.int .i64 p0, .int .i64 p1] 36 (0, 0)) ∧ s1 < w8.heap.size)) := ⟨⟨H7.out.1.all hbA, H7.out.2.1.all hbA, H7.out.2.2.1.all hbA, by rw [hbA.block s1 (Array.getElem?_eq_some_iff.1 H7.out.2.2.2).1]; exact H7.out.2.2.2, hrA, Nat.lt_of_lt_of_le (Array.getElem?_eq_some_iff.1 H7.out.2.2.2).1 hb8.size⟩⟩
          clear hl2 hb8 hbA hrA H7
          obtain ⟨s2, hs2⟩ : ∃ x, Hid (w8.heap.size = x) := ⟨_, show _ = _ from rfl⟩
          obtain ⟨W8, hW8⟩ : ∃ x, Hid (w8.alloc (.cells #[.int .i64 p0, .int .i64 p1] 36) = x) := ⟨_, show _ = _ from rfl⟩
          rw [show w8.alloc (.cells #[.int .i64 p0, .int .i64 p1] 36) = W8 from hW8.out, show w8.heap.size = s2 from hs2.out] at H8
          obtain ⟨HC⟩ : Nonempty (Hid (Calls _ _ _ _ _)) := ⟨count_any' tu M 60 Fu W8 H8.out.2.2.1.1⟩
          obtain ⟨HC2⟩ : Nonempty (Hid (Calls _ _ _ _ _)) := ⟨count_any' tt M 60 F W8 H8.out.2.1.1⟩
          go_upto_region 29 with fail
          rw [show w8.alloc (.cells #[.int .i64 p0, .int .i64 p1] 36) = W8 from hW8.out, show w8.heap.size = s2 from hs2.out]
          obtain ⟨e0, e1, -, -⟩ := pre_cells H8.out.2.2.2.1
          obtain ⟨g0, g1, g2, g3⟩ := pre_cells H8.out.2.2.2.2.1
          go_wp2_with fail
          refine HC.out.mono ?_
          clear HC
          rintro e wa ⟨rfl, hwa⟩
          subst hwa
          go_wp2_with fail
          refine HC2.out.mono ?_
          clear HC2
          rintro e wb ⟨rfl, hwb⟩
          subst hwb
          cases t with
          | false =>
            go_wp2_with fail
            go_ret
            exact ⟨rfl, H8.out.1.below⟩
          | true =>
            obtain ⟨f, hf⟩ := Option.isSome_iff_exists.1 his.out
            subst hf
            have hfe : f = ((p0, p1), p2) := hp.out
            subst hfe
            have hrq : rt p0 p1 = true := H8.out.2.1.1.rts _ HLO.out.1
            have hdc : dropC M p0 p1 = 0 ∧ dropS M p0 p1 = dropL M (p0, p1) := by
              have h : dropC M p0 p1 = 0 := by unfold dropC; rw [if_pos hrq, if_pos ((hasL_iff _ _).2 ⟨_, HLO.out.1, rfl⟩)]
              exact ⟨h, by unfold dropS; rw [if_pos h]⟩
            obtain ⟨HC⟩ : Nonempty (Hid (Calls _ _ _ _ _)) := ⟨drop_any tt M 60 p0 p1 F E _ H8.out.2.1.1 H8.out.1.errs (fun b hb => Nat.le_trans hw (H8.out.2.1.2 b hb)) (Nat.le_trans hw H8.out.1.size)⟩
            rw [hdc.1, hdc.2] at HC
            simp only [ev] at HC
            clear hdc
            go_wp2_with fail
            refine HC.out.mono ?_
            clear HC
            intro e w9 hdp
            obtain ⟨rfl, F', ot, it, -, kt, st⟩ := hdp.law H8.out.1 H8.out.2.1
            obtain ⟨H9⟩ : Nonempty (Hid (In0 B E w w9 ∧ Own B w9 tt (dropL M (p0, p1)) 60 F' ∧ w9.heap[s1]? = some (.cells #[.int .i64 p0, .int .i64 p1] 36 (0, 0)) ∧ w9.heap[s2]? = some (.cells #[.int .i64 p0, .int .i64 p1] 36 (0, 0)) ∧ s1 < s2 ∧ B ≤ s2)) := ⟨by
              have hl := H8.out.2.2.2.2.2
              have hs1 := HBS.out
              exact ⟨it, ot, kt.heap H8.out.2.2.2.1 (fun h => by have := HFAR.out s1 h; omega), kt.heap H8.out.2.2.2.2.1 (fun h => by have := HFAR.out s2 h; omega), hl, by omega⟩⟩
            clear ot it kt st hdp e0 e1 g0 g1 g2 g3
            obtain ⟨HRT⟩ : Nonempty (Hid (Rts M)) := ⟨H8.out.2.1.1.rts⟩
            clear H8
            obtain ⟨HC⟩ : Nonempty (Hid (Calls _ _ _ _ _)) := ⟨find_any tt (dropL M (p0, p1)) 60 a F' E w9 H9.out.2.1.1 H9.out.1.errs⟩
            go_wp2_with fail
            refine HC.out.mono ?_
            clear HC
            rintro e wx ⟨o3, hl3, rfl, hbx⟩
            obtain ⟨⟨⟨z0, z1⟩, z2⟩, hz⟩ : ∃ x, Hid (accE o3 = x) := ⟨_, show _ = _ from rfl⟩
            rw [show accE o3 = ((z0, z1), z2) from hz.out]
            simp only
            have hr1 : wx.heap[s1]? = some (.cells #[.int .i64 p0, .int .i64 p1] 36 (0, 0)) := by rw [hbx.block s1 (Array.getElem?_eq_some_iff.1 H9.out.2.2.1).1]; exact H9.out.2.2.1
            have hr2 : wx.heap[s2]? = some (.cells #[.int .i64 p0, .int .i64 p1] 36 (0, 0)) := by rw [hbx.block s2 (Array.getElem?_eq_some_iff.1 H9.out.2.2.2.1).1]; exact H9.out.2.2.2.1
            obtain ⟨e0, e1, e2, e3⟩ := pre_cells hr2
            have kp : Kept [s2] wx ((wx.setCell ⟨s2, 0, none⟩ (.int .i64 z0)).setCell ⟨s2, 1, none⟩ (.int .i64 z1)) := ((Kept.refl _ _).setCell (.inl (by simp)) _).setCell (.inl (by simp)) _
            have hbk := kp.below (H9.out.1.all hbx).size (by simpa using H9.out.2.2.2.2.2)
            obtain ⟨HX⟩ : Nonempty (Hid (Longest (dropL M (p0, p1)) a o3 ∧ In0 B E w ((wx.setCell ⟨s2, 0, none⟩ (.int .i64 z0)).setCell ⟨s2, 1, none⟩ (.int .i64 z1)) ∧ ((wx.setCell ⟨s2, 0, none⟩ (.int .i64 z0)).setCell ⟨s2, 1, none⟩ (.int .i64 z1)).heap[s1]? = some (.cells #[.int .i64 p0, .int .i64 p1] 36 (0, 0)) ∧ ((wx.setCell ⟨s2, 0, none⟩ (.int .i64 z0)).setCell ⟨s2, 1, none⟩ (.int .i64 z1)).heap[s2]? = some (.cells #[.int .i64 z0, .int .i64 z1] 36 (0, 0)))) := ⟨⟨hl3, (H9.out.1.all hbx).next hbk, kp.heap hr1 (by have := H9.out.2.2.2.2.1; simp; omega), node_set (node_set hr2 0 _) 1 _⟩⟩
            clear hl3 hbx hr1 hr2 kp hbk
            obtain ⟨X, hXX⟩ : ∃ x, Hid ((wx.setCell ⟨s2, 0, none⟩ (.int .i64 z0)).setCell ⟨s2, 1, none⟩ (.int .i64 z1) = x) := ⟨_, show _ = _ from rfl⟩
            rw [show (wx.setCell ⟨s2, 0, none⟩ (.int .i64 z0)).setCell ⟨s2, 1, none⟩ (.int .i64 z1) = X from hXX.out] at HX
            go_upto_region 36 with fail
            rw [show (wx.setCell ⟨s2, 0, none⟩ (.int .i64 z0)).setCell ⟨s2, 1, none⟩ (.int .i64 z1) = X from hXX.out]
            clear e0 e1 e2 e3
            obtain ⟨e0, e1, -, -⟩ := pre_cells HX.out.2.2.1
            obtain ⟨g0, g1, -, -⟩ := pre_cells HX.out.2.2.2
            cases o3 with
            | none =>
              go_wp2_with fail
              go_ret
              exact ⟨rfl, HX.out.2.1.below⟩
            | some f =>
              have hfe : f = ((z0, z1), z2) := hz.out
              subst hfe
              obtain ⟨hlz, hinz⟩ := longest_drop HRT.out HLO.out HX.out.1
              simp only at hlz hinz
              obtain ⟨HC⟩ : Nonempty (Hid (Calls _ _ _ _ _)) := ⟨in_any p0 p1 z0 z1 _ _ _ _ HX.out.2.1.errs.ip⟩
              rw [hinz] at HC
              have hdz : decide (z1 < p1) = true := decide_eq_true hlz
              clear hinz
              go_wp2_with fail
              refine HC.out.mono ?_
              clear HC
              rintro e wy ⟨rfl, hby⟩
              obtain ⟨HY⟩ : Nonempty (Hid (Below B w wy)) := ⟨(HX.out.2.1.all hby).below⟩
              clear hby
              go_wp2_with fail
              go_ret
              exact ⟨rfl, HY.out⟩
end Go.Proofs.YthehpnhjfnenoabDoor
