/-
  FibOrder: in whatever order they are put, the same is found; what is dropped is as if it had never been: the walk.
-/
import Derived.Test.YthehpnhjfnenoabDoorFibOrder0
namespace Go.Proofs.YthehpnhjfnenoabDoor
open Go.RowKit

set_option linter.unusedVariables false in
set_option linter.unusedSimpArgs false in
set_option maxRecDepth 100000 in
set_option maxHeartbeats 4000000 in
theorem fibOrder_any (L : List Ent) (p : Option Addr) (cap : Nat) (at' a : Int) (E : Nat → Addr) (w : World) (hL : Ents w p L) (hE : FibErrs w E) (hw : 12 ≤ w.heap.size) :
    Calls Tryd.prog 5 #[.slice p L.length cap, .int .i64 at', .int .i64 a] w fun r w' => r = .returned (.bool true) ∧ Below w.heap.size w w' := by
  obtain ⟨HC⟩ : Nonempty (Hid (Calls _ _ _ _ _)) := ⟨tabled_any E w hE hw⟩
  obtain ⟨HI⟩ : Nonempty (Hid (In0 w.heap.size E w w)) := ⟨⟨Below.refl _ _, Nat.le_refl _, hw, hE⟩⟩
  obtain ⟨HL⟩ : Nonempty (Hid (Ents w p L)) := ⟨hL⟩
  obtain ⟨B, hB⟩ : ∃ b, Hid (w.heap.size = b) := ⟨_, show _ = _ from rfl⟩
  rw [show w.heap.size = B from hB.out] at HI HC hw ⊢
  clear hE hL
  go_enter Tryd.func5, Tryd.ntmps5
  go_wp2_with fail
  refine HC.out.mono ?_
  clear HC
  rintro e w1 ⟨rfl, hb1⟩
  obtain ⟨HI1⟩ : Nonempty (Hid (In0 B E w w1)) := ⟨HI.out.next hb1⟩
  clear HI
  by_cases h50 : (50 : Int) < L.length
  · go_wp2_with fail
    go_ret
    exact ⟨rfl, hb1⟩
  by_cases hat : at' < 0
  · have h50' : (L.length : Int) ≤ 50 := by omega
    clear h50
    go_wp2_with fail
    go_ret
    exact ⟨rfl, hb1⟩
  by_cases hat2 : (L.length : Int) ≤ at'
  · have h50' : (L.length : Int) ≤ 50 := by omega
    have hat' : 0 ≤ at' := by omega
    clear h50 hat
    go_wp2_with fail
    go_ret
    exact ⟨rfl, hb1⟩
  obtain ⟨at0, rfl⟩ := Int.eq_ofNat_of_zero_le (show 0 ≤ at' by omega)
  have h50' : L.length ≤ 50 := by omega
  have hat' : at0 < L.length := by omega
  have q1 : (L.length : Int) ≤ 50 := by omega
  have q2 : (at0 : Int) < L.length := by omega
  have q6 : decide ((50 : Int) < L.length) = false := decide_eq_false (by omega)
  have q7 : decide ((at0 : Int) < 0) = false := decide_eq_false (by omega)
  have q8 : decide (L.length ≤ at0) = false := decide_eq_false (by omega)
  clear h50 hat hat2
  go_wp2_with fail
  go_loopw [6, 8, 9] (fun _ i _ wr => ∃ k : Nat, i = .int .i64 k ∧ Hid (Fine L k ∧ In0 B E w wr) ∧ k ≤ L.length) (fun _ i _ _ => L.length - (intOf i).toNat)
  case atStart => exact ⟨0, rfl, ⟨fun i _ h => by omega, HI1.out⟩, Nat.zero_le _⟩
  case round =>
    obtain ⟨k, rfl, HK, hkl⟩ := hrel
    by_cases hlt : k < L.length
    · have q3 : (k : Int) < L.length := by omega
      go_wp2_with fail
      go_loopw [6, 9] (fun _ j wr2 => ∃ m : Nat, j = .int .i64 m ∧ Hid ((∀ j (_ : j < m), ∀ h' : j < L.length, L[k].1 ≠ L[j].1) ∧ In0 B E w wr2) ∧ m ≤ k) (fun _ j _ => k - (intOf j).toNat)
      case atStart => exact ⟨0, rfl, ⟨fun j h => by omega, HK.out.2⟩, Nat.zero_le _⟩
      case round =>
        obtain ⟨m, rfl, HM, hmk⟩ := hrel
        by_cases hlm : m < k
        · have q4 : (m : Int) < k := by omega
          have q5 : (m : Int) < L.length := by omega
          obtain ⟨b, o, rfl, c0, c1, c2⟩ := HL.out k hlt
          obtain ⟨b', o', he, d0, d1, d2⟩ := HL.out m (by omega)
          simp only [Option.some.injEq, Addr.mk.injEq, and_true] at he
          obtain ⟨rfl, rfl⟩ := he
          replace c0 := by have := c0; rwa [← HM.out.2.below.cell (by rw [← hB.out]; exact cell_lt' c0)] at this
          replace c1 := by have := c1; rwa [← HM.out.2.below.cell (by rw [← hB.out]; exact cell_lt' c1)] at this
          replace d0 := by have := d0; rwa [← HM.out.2.below.cell (by rw [← hB.out]; exact cell_lt' d0)] at this
          replace d1 := by have := d1; rwa [← HM.out.2.below.cell (by rw [← hB.out]; exact cell_lt' d1)] at this
          clear c2 d2
          obtain ⟨⟨x0, x1⟩, hx⟩ : ∃ x, Hid (L[k].1 = x) := ⟨_, show _ = _ from rfl⟩
          obtain ⟨⟨y0, y1⟩, hy⟩ : ∃ x, Hid (L[m].1 = x) := ⟨_, show _ = _ from rfl⟩
          rw [hx.out] at c0 c1
          rw [hy.out] at d0 d1
          simp only at c0 c1 d0 d1
          by_cases heq : (x0 = y0 ∧ x1 = y1)
          · obtain ⟨rfl, rfl⟩ := heq
            go_wp2_with fail
            go_quiet (fail)
            go_wp2_with fail
            go_ret
            exact ⟨rfl, below_drewN HM.out.2.below _⟩
          · obtain ⟨HNE⟩ : Nonempty (Hid (L[k].1 ≠ L[m].1)) := ⟨by rw [hx.out, hy.out]; exact fun e => heq (by simpa using e)⟩
            by_cases hx0 : x0 = y0
            · subst hx0
              have hx1 : ¬ x1 = y1 := fun e => heq ⟨rfl, e⟩
              have hx1' : (x1 == y1) = false := by simpa using hx1
              clear heq
              go_wp2_with fail
              go_quiet (fail)
              go_wp2_with fail
              go_roundw
              case rel => exact ⟨m + 1, by go_num, ⟨ne_step hlt (by omega) HM.out.1 HNE.out, HM.out.2.next (below_drewN (Below.refl _ _) _)⟩, by omega⟩
              case measure => simp [intOf]; omega
            · have hx0' : (x0 == y0) = false := by simpa using hx0
              clear heq
              go_wp2_with fail
              go_quiet (fail)
              go_wp2_with fail
              go_roundw
              case rel => exact ⟨m + 1, by go_num, ⟨ne_step hlt (by omega) HM.out.1 HNE.out, HM.out.2.next (below_drewN (Below.refl _ _) _)⟩, by omega⟩
              case measure => simp [intOf]; omega
        · have hmk' : m = k := by omega
          subst hmk'
          clear hlm hmk
          obtain ⟨b, o, rfl, c0, c1, c2⟩ := HL.out m hlt
          replace c0 := by have := c0; rwa [← HM.out.2.below.cell (by rw [← hB.out]; exact cell_lt' c0)] at this
          replace c1 := by have := c1; rwa [← HM.out.2.below.cell (by rw [← hB.out]; exact cell_lt' c1)] at this
          clear c2
          obtain ⟨⟨x0, x1⟩, hx⟩ : ∃ x, Hid (L[m].1 = x) := ⟨_, show _ = _ from rfl⟩
          rw [hx.out] at c0 c1
          simp only at c0 c1
          obtain ⟨HC⟩ : Nonempty (Hid (Calls _ _ _ _ _)) := ⟨check_any x0 x1 _ _ _ _ HM.out.2.errs.ip⟩
          cases hr : rt x0 x1 with
          | true =>
            rw [chk_nil x0 x1 _ _ hr] at HC
            go_wp2_with fail
            refine HC.out.mono ?_
            clear HC
            rintro e w2 ⟨rfl, hb2⟩
            obtain ⟨HM2⟩ : Nonempty (Hid (In0 B E w w2)) := ⟨HM.out.2.all hb2⟩
            clear hb2
            obtain ⟨HR⟩ : Nonempty (Hid (Fine L (m + 1) ∧ In0 B E w w2)) := ⟨by
              refine ⟨fun i hi him => ?_, HM2.out⟩
              rcases Nat.lt_or_ge i m with h | h
              · exact HK.out.1 i hi h
              · obtain rfl : i = m := by omega
                exact ⟨by rw [hx.out]; exact hr, fun j hj h' => HM.out.1 j hj h'⟩⟩
            go_wp2_with fail
            go_roundw
            case rel => first | exact ⟨m + 1, by go_num, HR, by omega⟩ | ((repeat apply Exists.intro); exact ⟨⟨m + 1, by go_num, HR, by omega⟩, rfl⟩)
            case measure => simp [intOf]; omega
          | false =>
            obtain ⟨ea, hea⟩ := chk_err x0 x1 (E 1) (E 2) hr
            rw [hea] at HC
            clear hea
            go_wp2_with fail
            refine HC.out.mono ?_
            clear HC
            rintro e w2 ⟨rfl, hb2⟩
            obtain ⟨HM2⟩ : Nonempty (Hid (In0 B E w w2)) := ⟨HM.out.2.all hb2⟩
            clear hb2
            go_wp2_with fail
            go_ret
            exact ⟨rfl, HM2.out.below⟩
    · have hk : k = L.length := by omega
      subst hk
      clear hlt hkl
      obtain ⟨HC⟩ : Nonempty (Hid (Calls _ _ _ _ _)) := ⟨new_any 60 60 (show min (max (60 : Int) 0) 60 = 60 by decide) wr⟩
      go_wp2_with fail
      refine HC.out.mono ?_
      clear HC
      rintro e w2 ⟨rfl, it, hb2⟩
      obtain ⟨tt, htt⟩ : ∃ b, Hid (wr.heap.size = b) := ⟨_, show _ = _ from rfl⟩
      obtain ⟨H2⟩ : Nonempty (Hid (In0 B E w w2 ∧ Own B w2 tt [] 60 [tt] ∧ tt < w2.heap.size)) := ⟨⟨HK.out.2.all hb2, by rw [← htt.out]; exact own_new it HK.out.2.size, by rw [← htt.out]; exact it.lt _ (by simp)⟩⟩
      rw [show wr.heap.size = tt from htt.out]
      clear it hb2
      obtain ⟨HC⟩ : Nonempty (Hid (Calls _ _ _ _ _)) := ⟨new_any 60 60 (show min (max (60 : Int) 0) 60 = 60 by decide) w2⟩
      go_wp2_with fail
      refine HC.out.mono ?_
      clear HC
      rintro e w3 ⟨rfl, it, hb2⟩
      obtain ⟨tu, htu⟩ : ∃ b, Hid (w2.heap.size = b) := ⟨_, show _ = _ from rfl⟩
      obtain ⟨H3⟩ : Nonempty (Hid (In0 B E w w3 ∧ Own B w3 tt [] 60 [tt] ∧ Own B w3 tu [] 60 [tu] ∧ tt < tu ∧ tu < w3.heap.size)) := ⟨⟨H2.out.1.all hb2, H2.out.2.1.all hb2, by rw [← htu.out]; exact own_new it H2.out.1.size, by rw [← htu.out]; exact H2.out.2.2, by rw [← htu.out]; exact it.lt _ (by simp)⟩⟩
      rw [show w2.heap.size = tu from htu.out]
      clear it hb2
      obtain ⟨HC⟩ : Nonempty (Hid (Calls _ _ _ _ _)) := ⟨new_any 60 60 (show min (max (60 : Int) 0) 60 = 60 by decide) w3⟩
      go_wp2_with fail
      refine HC.out.mono ?_
      clear HC
      rintro e w4 ⟨rfl, it, hb2⟩
      obtain ⟨tw, htw⟩ : ∃ b, Hid (w3.heap.size = b) := ⟨_, show _ = _ from rfl⟩
      obtain ⟨H4⟩ : Nonempty (Hid (Three B w w4 E L 0 L[at0].1 tt tu tw [] [] [] [tt] [tu] [tw])) := ⟨by
        have l1 : tu < tw := by rw [← htw.out]; exact H3.out.2.2.2.2
        have l2 := H3.out.2.2.2.1
        refine ⟨H3.out.1.all hb2, H3.out.2.1.all hb2, H3.out.2.2.1.all hb2, by rw [← htw.out]; exact own_new it H3.out.1.size, ?_, ?_, ?_, hold_nil, ?_, hold_nil⟩
        · simp; omega
        · simp; omega
        · simp; omega
        · simp [hold_nil]⟩
      rw [show w3.heap.size = tw from htw.out]
      clear it hb2 H2 H3 HI1
      obtain ⟨HFI⟩ : Nonempty (Hid (Fine L L.length)) := ⟨HK.out.1⟩
      clear HK
      go_wp2_with fail
      go_loopw [6, 13, 14] (fun _ i _ wr => ∃ (k : Nat) (Lt Lu Lw : List Ent) (Ft Fu Fw : List Nat), i = .int .i64 k ∧ Hid (Three B w wr E L k L[at0].1 tt tu tw Lt Lu Lw Ft Fu Fw) ∧ k ≤ L.length) (fun _ i _ _ => L.length - (intOf i).toNat)
      case atStart => exact ⟨0, [], [], [], [tt], [tu], [tw], rfl, H4, Nat.zero_le _⟩
      case round =>
        obtain ⟨k, Lt, Lu, Lw, Ft, Fu, Fw, rfl, H3, hkl⟩ := hrel
        clear H4 hb1
        by_cases hlt : k < L.length
        · as_aux_lemma =>
          have q3 : (k : Int) < L.length := by omega
          obtain ⟨m, hm⟩ : ∃ m, m + (k + 1) = L.length := ⟨L.length - (k + 1), by omega⟩
          have hml : m < L.length := by omega
          have q4 : (m : Int) < L.length := by omega
          have q5 : (L.length : Int) - 1 - (k : Int) = (m : Int) := by omega
          obtain ⟨HM⟩ : Nonempty (Hid (m + (k + 1) = L.length)) := ⟨hm⟩
          clear hm
          obtain ⟨b, o, rfl, c0, c1, c2⟩ := HL.out k hlt
          obtain ⟨b', o', he, d0, d1, d2⟩ := HL.out m hml
          simp only [Option.some.injEq, Addr.mk.injEq, and_true] at he
          obtain ⟨rfl, rfl⟩ := he
          obtain ⟨⟨⟨x0, x1⟩, x2⟩, hx⟩ : ∃ x, Hid (L[k] = x) := ⟨_, show _ = _ from rfl⟩
          obtain ⟨⟨⟨y0, y1⟩, y2⟩, hy⟩ : ∃ x, Hid (L[m] = x) := ⟨_, show _ = _ from rfl⟩
          rw [hx.out] at c0 c1 c2
          rw [hy.out] at d0 d1 d2
          simp only at c0 c1 c2 d0 d1 d2
          obtain ⟨HS⟩ : Nonempty (Hid (∀ w', Below B w w' → w'.cell? ⟨b, o + k * 3, none⟩ = some (.int .i64 x0) ∧ w'.cell? ⟨b, o + k * 3 + 1, none⟩ = some (.int .i64 x1) ∧ w'.cell? ⟨b, o + k * 3 + 2, none⟩ = some (.int .i64 x2) ∧ w'.cell? ⟨b, o + m * 3, none⟩ = some (.int .i64 y0) ∧ w'.cell? ⟨b, o + m * 3 + 1, none⟩ = some (.int .i64 y1) ∧ w'.cell? ⟨b, o + m * 3 + 2, none⟩ = some (.int .i64 y2))) := ⟨fun w' hb => by
            rw [← show w.heap.size = B from hB.out] at hb
            exact ⟨cell_kept hb c0, cell_kept hb c1, cell_kept hb c2, cell_kept hb d0, cell_kept hb d1, cell_kept hb d2⟩⟩
          clear c0 c1 c2 d0 d1 d2
          have hrx : rt x0 x1 = true := by have := (HFI.out k hlt hlt).1; rw [hx.out] at this; exact this
          have hry : rt y0 y1 = true := by have := (HFI.out m hml hml).1; rw [hy.out] at this; exact this
          obtain ⟨HD⟩ : Nonempty (Hid (Three B w wr.drew E L k L[at0].1 tt tu tw Lt Lu Lw Ft Fu Fw)) := ⟨H3.out.drew⟩
          obtain ⟨HPX⟩ : Nonempty (Hid (∀ M : List Ent, M.length < 60 → putC M 60 x0 x1 = 0 ∧ putS M 60 x0 x1 x2 = putL M ((x0, x1), x2))) := ⟨fun M hM => put_ok (x := ((x0, x1), x2)) hrx hM⟩
          obtain ⟨HPY⟩ : Nonempty (Hid (∀ M : List Ent, M.length < 60 → putC M 60 y0 y1 = 0 ∧ putS M 60 y0 y1 y2 = putL M ((y0, y1), y2))) := ⟨fun M hM => put_ok (x := ((y0, y1), y2)) hry hM⟩
          have hl1 : Lt.length < 60 := by rw [HD.out.ht.1]; simp; omega
          have hl2 : Lu.length < 60 := by rw [HD.out.hu.1]; simp; omega
          have hl3 : Lw.length < 60 := by rw [HD.out.hw.1]; exact Nat.lt_of_le_of_lt out_length (by omega)
          obtain ⟨HLE⟩ : Nonempty (Hid (Lt.length < 60 ∧ Lu.length < 60 ∧ Lw.length < 60)) := ⟨⟨hl1, hl2, hl3⟩⟩
          clear hl1 hl2 hl3 hrx hry
          obtain ⟨HC⟩ : Nonempty (Hid (Calls _ _ _ _ _)) := ⟨put_any tt Lt 60 x0 x1 x2 Ft E _ HD.out.t.1 HD.out.ins.errs (fun b hb => Nat.le_trans hw (HD.out.t.2 b hb)) (Nat.le_trans hw HD.out.ins.size)⟩
          rw [(HPX.out Lt HLE.out.1).1, (HPX.out Lt HLE.out.1).2] at HC
          simp only [ev] at HC
          go_wp2_with fail
          refine wp_region_noPanic ?_
          refine wp_region_held_drew (S := (fun w' => w'.cell? ⟨b, o + k * 3, none⟩ = some (.int .i64 x0) ∧ w'.cell? ⟨b, o + k * 3 + 1, none⟩ = some (.int .i64 x1) ∧ w'.cell? ⟨b, o + k * 3 + 2, none⟩ = some (.int .i64 x2) ∧ w'.cell? ⟨b, o + m * 3, none⟩ = some (.int .i64 y0) ∧ w'.cell? ⟨b, o + m * 3 + 1, none⟩ = some (.int .i64 y1) ∧ w'.cell? ⟨b, o + m * 3 + 2, none⟩ = some (.int .i64 y2))) (by kernel_rfl) ?_ (fun hHeld => ?_)
          · exact HS.out _ HD.out.ins.below
          refine wpAnyH_take (i := 0) (v := ?_) rfl (by kernel_rfl) (by kernel_rfl) (by kernel_rfl) (fun _ _ _ h => h) (Or.inl ⟨by rfl, ?_⟩) (by assumption) ?_
          rotate_left
          · (intro w hSw; (try dsimp only at hSw); go_simp; try (with_reducible rfl))
          try simp only [Act.put, List.setIfInBounds_toArray, List.set_cons_zero, List.set_cons_succ, List.getElem_toArray, List.getElem_cons_zero, List.getElem_cons_succ]
          refine wpAnyH_take (i := 1) (v := ?_) rfl (by kernel_rfl) (by kernel_rfl) (by kernel_rfl) (fun _ _ _ h => h) (Or.inl ⟨by rfl, ?_⟩) (by assumption) ?_
          rotate_left
          · (intro w hSw; (try dsimp only at hSw); go_simp; try (with_reducible rfl))
          try simp only [Act.put, List.setIfInBounds_toArray, List.set_cons_zero, List.set_cons_succ, List.getElem_toArray, List.getElem_cons_zero, List.getElem_cons_succ]
          refine wpAnyH_take (i := 2) (v := ?_) rfl (by kernel_rfl) (by kernel_rfl) (by kernel_rfl) (fun _ _ _ h => h) (Or.inl ⟨by rfl, ?_⟩) (by assumption) ?_
          rotate_left
          · (intro w hSw; (try dsimp only at hSw); go_simp; try (with_reducible rfl))
          try simp only [Act.put, List.setIfInBounds_toArray, List.set_cons_zero, List.set_cons_succ, List.getElem_toArray, List.getElem_cons_zero, List.getElem_cons_succ]
          refine wpAnyH_take (i := 3) (v := ?_) rfl (by kernel_rfl) (by kernel_rfl) (by kernel_rfl) (fun _ _ _ h => h) (Or.inl ⟨by rfl, ?_⟩) (by assumption) ?_
          rotate_left
          · (intro w hSw; (try dsimp only at hSw); go_simp; try (with_reducible rfl))
          try simp only [Act.put, List.setIfInBounds_toArray, List.set_cons_zero, List.set_cons_succ, List.getElem_toArray, List.getElem_cons_zero, List.getElem_cons_succ]
          refine wpAnyH_take (i := 4) (v := ?_) rfl (by kernel_rfl) (by kernel_rfl) (by kernel_rfl) (fun _ _ _ h => h) (Or.inl ⟨by rfl, ?_⟩) (by assumption) ?_
          rotate_left
          · (intro w hSw; (try dsimp only at hSw); go_simp; try (with_reducible rfl))
          try simp only [Act.put, List.setIfInBounds_toArray, List.set_cons_zero, List.set_cons_succ, List.getElem_toArray, List.getElem_cons_zero, List.getElem_cons_succ]
          refine wpAnyH_take (i := 5) (v := ?_) rfl (by kernel_rfl) (by kernel_rfl) (by kernel_rfl) (fun _ _ _ h => h) (Or.inl ⟨by rfl, ?_⟩) (by assumption) ?_
          rotate_left
          · (intro w hSw; (try dsimp only at hSw); go_simp; try (with_reducible rfl))
          try simp only [Act.put, List.setIfInBounds_toArray, List.set_cons_zero, List.set_cons_succ, List.getElem_toArray, List.getElem_cons_zero, List.getElem_cons_succ]
          refine wpAnyH_take (i := 6) (v := ?_) rfl (by kernel_rfl) (by kernel_rfl) (by kernel_rfl) (fun _ _ _ h => h) (Or.inl ⟨by rfl, ?_⟩) (by assumption) ?_
          rotate_left
          · (intro w hSw; (try dsimp only at hSw); go_simp; try (with_reducible rfl))
          try simp only [Act.put, List.setIfInBounds_toArray, List.set_cons_zero, List.set_cons_succ, List.getElem_toArray, List.getElem_cons_zero, List.getElem_cons_succ]
          refine wpAnyH_take (i := 7) (v := ?_) rfl (by kernel_rfl) (by kernel_rfl) (by kernel_rfl) (fun _ _ _ h => h) (Or.inl ⟨by rfl, ?_⟩) (by assumption) ?_
          rotate_left
          · (intro w hSw; (try dsimp only at hSw); go_simp; try (with_reducible rfl))
          try simp only [Act.put, List.setIfInBounds_toArray, List.set_cons_zero, List.set_cons_succ, List.getElem_toArray, List.getElem_cons_zero, List.getElem_cons_succ]
          refine wpAnyH_take (i := 8) (v := ?_) rfl (by kernel_rfl) (by kernel_rfl) (by kernel_rfl) (fun _ _ _ h => h) (Or.inl ⟨by rfl, ?_⟩) (by assumption) ?_
          rotate_left
          · (intro w hSw; (try dsimp only at hSw); go_simp; try (with_reducible rfl))
          try simp only [Act.put, List.setIfInBounds_toArray, List.set_cons_zero, List.set_cons_succ, List.getElem_toArray, List.getElem_cons_zero, List.getElem_cons_succ]
          refine wpAnyH_take (i := 9) (v := ?_) rfl (by kernel_rfl) (by kernel_rfl) (by kernel_rfl) (fun _ _ _ h => h) (Or.inl ⟨by rfl, ?_⟩) (by assumption) ?_
          rotate_left
          · (intro w hSw; (try dsimp only at hSw); go_simp; try (with_reducible rfl))
          try simp only [Act.put, List.setIfInBounds_toArray, List.set_cons_zero, List.set_cons_succ, List.getElem_toArray, List.getElem_cons_zero, List.getElem_cons_succ]
          refine wpAnyH_take (i := 10) (v := ?_) rfl (by kernel_rfl) (by kernel_rfl) (by kernel_rfl) (fun _ _ _ h => h) (Or.inl ⟨by rfl, ?_⟩) (by assumption) ?_
          rotate_left
          · (intro w hSw; (try dsimp only at hSw); go_simp; try (with_reducible rfl))
          try simp only [Act.put, List.setIfInBounds_toArray, List.set_cons_zero, List.set_cons_succ, List.getElem_toArray, List.getElem_cons_zero, List.getElem_cons_succ]
          refine wpAnyH_ready (rs := [11]) (by kernel_rfl) (by simp) ?_
          refine AllReadyH.cons rfl (fun K hK => ?_) AllReadyH.nil
          go_simp
          refine HC.out.mono ?_
          clear HC
          intro e w5 hp
          obtain ⟨rfl, Ft', ot, it, -, kt, st⟩ := hp.law HD.out.ins HD.out.t
          obtain ⟨HA⟩ : Nonempty (Hid (In0 B E w w5 ∧ Own B w5 tt (putL Lt ((x0, x1), x2)) 60 Ft' ∧ Own B w5 tu Lu 60 Fu ∧ Own B w5 tw Lw 60 Fw ∧ (∀ b ∈ Fu, b ∉ Ft') ∧ (∀ b ∈ Fw, b ∉ Ft'))) := ⟨⟨it, ot, HD.out.u.beside kt (apart_symm HD.out.tu), HD.out.w.beside kt (apart_symm HD.out.tw), apart_next HD.out.u st (apart_symm HD.out.tu), apart_next HD.out.w st (apart_symm HD.out.tw)⟩⟩
          clear ot it kt st hp
          obtain ⟨HC⟩ : Nonempty (Hid (Calls _ _ _ _ _)) := ⟨put_any tu Lu 60 y0 y1 y2 Fu E _ HA.out.2.2.1.1 HA.out.1.errs (fun b hb => Nat.le_trans hw (HA.out.2.2.1.2 b hb)) (Nat.le_trans hw HA.out.1.size)⟩
          rw [(HPY.out Lu HLE.out.2.1).1, (HPY.out Lu HLE.out.2.1).2] at HC
          simp only [ev] at HC
          refine hK.out _ _ ?_ (fun hHeld => ?_)
          · exact HS.out _ HA.out.1.below
          clear hK K
          try simp only [Act.put, List.setIfInBounds_toArray, List.set_cons_zero, List.set_cons_succ, List.getElem_toArray, List.getElem_cons_zero, List.getElem_cons_succ]
          refine wpAnyH_take (i := 12) (v := ?_) rfl (by kernel_rfl) (by kernel_rfl) (by kernel_rfl) (fun _ _ _ h => h) (Or.inl ⟨by rfl, ?_⟩) (by assumption) ?_
          rotate_left
          · (intro w hSw; (try dsimp only at hSw); go_simp; try (with_reducible rfl))
          try simp only [Act.put, List.setIfInBounds_toArray, List.set_cons_zero, List.set_cons_succ, List.getElem_toArray, List.getElem_cons_zero, List.getElem_cons_succ]
          refine wpAnyH_take (i := 13) (v := ?_) rfl (by kernel_rfl) (by kernel_rfl) (by kernel_rfl) (fun _ _ _ h => h) (Or.inl ⟨by rfl, ?_⟩) (by assumption) ?_
          rotate_left
          · (intro w hSw; (try dsimp only at hSw); go_simp; try (with_reducible rfl))
          try simp only [Act.put, List.setIfInBounds_toArray, List.set_cons_zero, List.set_cons_succ, List.getElem_toArray, List.getElem_cons_zero, List.getElem_cons_succ]
          refine wpAnyH_take (i := 14) (v := ?_) rfl (by kernel_rfl) (by kernel_rfl) (by kernel_rfl) (fun _ _ _ h => h) (Or.inl ⟨by rfl, ?_⟩) (by assumption) ?_
          rotate_left
          · (intro w hSw; (try dsimp only at hSw); go_simp; try (with_reducible rfl))
          try simp only [Act.put, List.setIfInBounds_toArray, List.set_cons_zero, List.set_cons_succ, List.getElem_toArray, List.getElem_cons_zero, List.getElem_cons_succ]
          refine wpAnyH_take (i := 15) (v := ?_) rfl (by kernel_rfl) (by kernel_rfl) (by kernel_rfl) (fun _ _ _ h => h) (Or.inl ⟨by rfl, ?_⟩) (by assumption) ?_
          rotate_left
          · (intro w hSw; (try dsimp only at hSw); go_simp; try (with_reducible rfl))
          try simp only [Act.put, List.setIfInBounds_toArray, List.set_cons_zero, List.set_cons_succ, List.getElem_toArray, List.getElem_cons_zero, List.getElem_cons_succ]
          refine wpAnyH_take (i := 16) (v := ?_) rfl (by kernel_rfl) (by kernel_rfl) (by kernel_rfl) (fun _ _ _ h => h) (Or.inl ⟨by rfl, ?_⟩) (by assumption) ?_
          rotate_left
          · (intro w hSw; (try dsimp only at hSw); go_simp; try (with_reducible rfl))
          try simp only [Act.put, List.setIfInBounds_toArray, List.set_cons_zero, List.set_cons_succ, List.getElem_toArray, List.getElem_cons_zero, List.getElem_cons_succ]
          refine wpAnyH_take (i := 17) (v := ?_) rfl (by kernel_rfl) (by kernel_rfl) (by kernel_rfl) (fun _ _ _ h => h) (Or.inl ⟨by rfl, ?_⟩) (by assumption) ?_
          rotate_left
          · (intro w hSw; (try dsimp only at hSw); go_simp; try (with_reducible rfl))
          try simp only [Act.put, List.setIfInBounds_toArray, List.set_cons_zero, List.set_cons_succ, List.getElem_toArray, List.getElem_cons_zero, List.getElem_cons_succ]
          refine wpAnyH_take (i := 18) (v := ?_) rfl (by kernel_rfl) (by kernel_rfl) (by kernel_rfl) (fun _ _ _ h => h) (Or.inl ⟨by rfl, ?_⟩) (by assumption) ?_
          rotate_left
          · (intro w hSw; (try dsimp only at hSw); go_simp; try (with_reducible rfl))
          try simp only [Act.put, List.setIfInBounds_toArray, List.set_cons_zero, List.set_cons_succ, List.getElem_toArray, List.getElem_cons_zero, List.getElem_cons_succ]
          refine wpAnyH_take (i := 19) (v := ?_) rfl (by kernel_rfl) (by kernel_rfl) (by kernel_rfl) (fun _ _ _ h => h) (Or.inl ⟨by rfl, ?_⟩) (by assumption) ?_
          rotate_left
          · (intro w hSw; (try dsimp only at hSw); go_simp; try (with_reducible rfl))
          try simp only [Act.put, List.setIfInBounds_toArray, List.set_cons_zero, List.set_cons_succ, List.getElem_toArray, List.getElem_cons_zero, List.getElem_cons_succ]
          refine wpAnyH_take (i := 20) (v := ?_) rfl (by kernel_rfl) (by kernel_rfl) (by kernel_rfl) (fun _ _ _ h => h) (Or.inl ⟨by rfl, ?_⟩) (by assumption) ?_
          rotate_left
          · (intro w hSw; (try dsimp only at hSw); go_simp; try (with_reducible rfl))
          try simp only [Act.put, List.setIfInBounds_toArray, List.set_cons_zero, List.set_cons_succ, List.getElem_toArray, List.getElem_cons_zero, List.getElem_cons_succ]
          refine wpAnyH_take (i := 21) (v := ?_) rfl (by kernel_rfl) (by kernel_rfl) (by kernel_rfl) (fun _ _ _ h => h) (Or.inl ⟨by rfl, ?_⟩) (by assumption) ?_
          rotate_left
          · (intro w hSw; (try dsimp only at hSw); go_simp; try (with_reducible rfl))
          try simp only [Act.put, List.setIfInBounds_toArray, List.set_cons_zero, List.set_cons_succ, List.getElem_toArray, List.getElem_cons_zero, List.getElem_cons_succ]
          refine wpAnyH_take (i := 22) (v := ?_) rfl (by kernel_rfl) (by kernel_rfl) (by kernel_rfl) (fun _ _ _ h => h) (Or.inl ⟨by rfl, ?_⟩) (by assumption) ?_
          rotate_left
          · (intro w hSw; (try dsimp only at hSw); go_simp; try (with_reducible rfl))
          try simp only [Act.put, List.setIfInBounds_toArray, List.set_cons_zero, List.set_cons_succ, List.getElem_toArray, List.getElem_cons_zero, List.getElem_cons_succ]
          refine wpAnyH_take (i := 23) (v := ?_) rfl (by kernel_rfl) (by kernel_rfl) (by kernel_rfl) (fun _ _ _ h => h) (Or.inl ⟨by rfl, ?_⟩) (by assumption) ?_
          rotate_left
          · (intro w hSw; (try dsimp only at hSw); go_simp; try (with_reducible rfl))
          try simp only [Act.put, List.setIfInBounds_toArray, List.set_cons_zero, List.set_cons_succ, List.getElem_toArray, List.getElem_cons_zero, List.getElem_cons_succ]
          refine wpAnyH_take (i := 24) (v := ?_) rfl (by kernel_rfl) (by kernel_rfl) (by kernel_rfl) (fun _ _ _ h => h) (Or.inl ⟨by rfl, ?_⟩) (by assumption) ?_
          rotate_left
          · (intro w hSw; (try dsimp only at hSw); go_simp; try (with_reducible rfl))
          try simp only [Act.put, List.setIfInBounds_toArray, List.set_cons_zero, List.set_cons_succ, List.getElem_toArray, List.getElem_cons_zero, List.getElem_cons_succ]
          refine wpAnyH_ready (rs := [25]) (by kernel_rfl) (by simp) ?_
          refine AllReadyH.cons rfl (fun K hK => ?_) AllReadyH.nil
          go_simp
          refine HC.out.mono ?_
          clear HC
          intro e w6 hp
          obtain ⟨rfl, Fu', ou, iu, -, ku, su⟩ := hp.law HA.out.1 HA.out.2.2.1
          obtain ⟨HB2⟩ : Nonempty (Hid (In0 B E w w6 ∧ Own B w6 tt (putL Lt ((x0, x1), x2)) 60 Ft' ∧ Own B w6 tu (putL Lu ((y0, y1), y2)) 60 Fu' ∧ Own B w6 tw Lw 60 Fw ∧ (∀ b ∈ Ft', b ∉ Fu') ∧ (∀ b ∈ Ft', b ∉ Fw) ∧ (∀ b ∈ Fu', b ∉ Fw))) := ⟨⟨iu, HA.out.2.1.beside ku (apart_symm HA.out.2.2.2.2.1), ou, HA.out.2.2.2.1.beside ku (apart_symm HD.out.uw), apart_next HA.out.2.1 su (apart_symm HA.out.2.2.2.2.1), apart_symm HA.out.2.2.2.2.2, apart_symm (apart_next HA.out.2.2.2.1 su (apart_symm HD.out.uw))⟩⟩
          clear ou iu ku su hp HA
          refine hK.out _ _ ?_ (fun hHeld => ?_)
          · exact HS.out _ HB2.out.1.below
          clear hK K
          try simp only [Act.put, List.setIfInBounds_toArray, List.set_cons_zero, List.set_cons_succ, List.getElem_toArray, List.getElem_cons_zero, List.getElem_cons_succ]
          refine wpAnyH_take (i := 26) (v := ?_) rfl (by kernel_rfl) (by kernel_rfl) (by kernel_rfl) (fun _ _ _ h => h) (Or.inl ⟨by rfl, ?_⟩) (by assumption) ?_
          rotate_left
          · (intro w hSw; (try dsimp only at hSw); go_simp; try (with_reducible rfl))
          try simp only [Act.put, List.setIfInBounds_toArray, List.set_cons_zero, List.set_cons_succ, List.getElem_toArray, List.getElem_cons_zero, List.getElem_cons_succ]
          refine wpAnyH_take (i := 27) (v := ?_) rfl (by kernel_rfl) (by kernel_rfl) (by kernel_rfl) (fun _ _ _ h => h) (Or.inl ⟨by rfl, ?_⟩) (by assumption) ?_
          rotate_left
          · (intro w hSw; (try dsimp only at hSw); go_simp; try (with_reducible rfl))
          try simp only [Act.put, List.setIfInBounds_toArray, List.set_cons_zero, List.set_cons_succ, List.getElem_toArray, List.getElem_cons_zero, List.getElem_cons_succ]
          refine wpAnyH_done (by kernel_rfl) ?_ _
          refine NoPanic.normal ?_
          clear hHeld
          obtain ⟨HD2⟩ : Nonempty (Hid (In0 B E w w6.drew ∧ Own B w6.drew tt (putL Lt ((x0, x1), x2)) 60 Ft' ∧ Own B w6.drew tu (putL Lu ((y0, y1), y2)) 60 Fu' ∧ Own B w6.drew tw Lw 60 Fw)) := ⟨by
            have hb : Below w6.heap.size w6 w6.drew := (Below.refl _ _).drew
            exact ⟨HB2.out.1.all hb, HB2.out.2.1.all hb, HB2.out.2.2.1.all hb, HB2.out.2.2.2.1.all hb⟩⟩
          have hat3 : Hid (k ≠ at0 → Hold (putL Lw ((x0, x1), x2)) (outL L (k + 1) L[at0].1)) := fun hne => by have := hold_w HFI.out hlt hat' hne HD.out.w.1.srt HD.out.hw; rw [hx.out] at this; exact this
          have hT : Hid (Hold (putL Lt ((x0, x1), x2)) (L.take (k + 1))) := by have := hold_t HFI.out hlt HD.out.t.1.srt HD.out.ht; rw [hx.out] at this; exact this
          have hU : Hid (Hold (putL Lu ((y0, y1), y2)) (L.drop (L.length - (k + 1)))) := by have := hold_u HFI.out HM.out hml HD.out.u.1.srt HD.out.hu; rw [hy.out] at this; exact this
          by_cases hka : k = at0
          · have hW : Hid (Hold Lw (outL L (k + 1) L[at0].1)) := by subst hka; rw [Hid, out_at hat']; exact HD.out.hw
            have hka' : ((k : Int) != (at0 : Int)) = false := by simp [hka]
            clear hka
            go_wp2_with fail
            refine wp_region_noPanic ?_
            refine wp_region_held_drew (S := (fun w' => w'.cell? ⟨b, o + k * 3, none⟩ = some (.int .i64 x0))) (by kernel_rfl) ?_ (fun hHeld => ?_)
            · exact (HS.out _ HD2.out.1.below).1
            refine wpAnyH_take (i := 0) (v := ?_) rfl (by kernel_rfl) (by kernel_rfl) (by kernel_rfl) (fun _ _ _ h => h) (Or.inl ⟨by rfl, ?_⟩) (by assumption) ?_
            rotate_left
            · (intro w hSw; (try dsimp only at hSw); go_simp; try (with_reducible rfl))
            try simp only [Act.put, List.setIfInBounds_toArray, List.set_cons_zero, List.set_cons_succ, List.getElem_toArray, List.getElem_cons_zero, List.getElem_cons_succ]
            refine wpAnyH_take (i := 1) (v := ?_) rfl (by kernel_rfl) (by kernel_rfl) (by kernel_rfl) (fun _ _ _ h => h) (Or.inl ⟨by rfl, ?_⟩) (by assumption) ?_
            rotate_left
            · (intro w hSw; (try dsimp only at hSw); go_simp; try (with_reducible rfl))
            try simp only [Act.put, List.setIfInBounds_toArray, List.set_cons_zero, List.set_cons_succ, List.getElem_toArray, List.getElem_cons_zero, List.getElem_cons_succ]
            refine wpAnyH_take (i := 2) (v := ?_) rfl (by kernel_rfl) (by kernel_rfl) (by kernel_rfl) (fun _ _ _ h => h) (Or.inl ⟨by rfl, ?_⟩) (by assumption) ?_
            rotate_left
            · (intro w hSw; (try dsimp only at hSw); go_simp; try (with_reducible rfl))
            try simp only [Act.put, List.setIfInBounds_toArray, List.set_cons_zero, List.set_cons_succ, List.getElem_toArray, List.getElem_cons_zero, List.getElem_cons_succ]
            refine wpAnyH_take (i := 3) (v := ?_) rfl (by kernel_rfl) (by kernel_rfl) (by kernel_rfl) (fun _ _ _ h => h) (Or.inl ⟨by rfl, ?_⟩) (by assumption) ?_
            rotate_left
            · (intro w hSw; (try dsimp only at hSw); go_simp; try (with_reducible rfl))
            try simp only [Act.put, List.setIfInBounds_toArray, List.set_cons_zero, List.set_cons_succ, List.getElem_toArray, List.getElem_cons_zero, List.getElem_cons_succ]
            refine wpAnyH_take (i := 4) (v := undef) rfl (by kernel_rfl) (by kernel_rfl) (by kernel_rfl) (fun _ _ _ h => h) (Or.inr ⟨by rfl, rfl⟩) (by assumption) ?_
            try simp only [Act.put, List.setIfInBounds_toArray, List.set_cons_zero, List.set_cons_succ, List.getElem_toArray, List.getElem_cons_zero, List.getElem_cons_succ]
            refine wpAnyH_take (i := 5) (v := undef) rfl (by kernel_rfl) (by kernel_rfl) (by kernel_rfl) (fun _ _ _ h => h) (Or.inr ⟨by rfl, rfl⟩) (by assumption) ?_
            try simp only [Act.put, List.setIfInBounds_toArray, List.set_cons_zero, List.set_cons_succ, List.getElem_toArray, List.getElem_cons_zero, List.getElem_cons_succ]
            refine wpAnyH_take (i := 6) (v := undef) rfl (by kernel_rfl) (by kernel_rfl) (by kernel_rfl) (fun _ _ _ h => h) (Or.inr ⟨by rfl, rfl⟩) (by assumption) ?_
            try simp only [Act.put, List.setIfInBounds_toArray, List.set_cons_zero, List.set_cons_succ, List.getElem_toArray, List.getElem_cons_zero, List.getElem_cons_succ]
            refine wpAnyH_take (i := 7) (v := undef) rfl (by kernel_rfl) (by kernel_rfl) (by kernel_rfl) (fun _ _ _ h => h) (Or.inr ⟨by rfl, rfl⟩) (by assumption) ?_
            try simp only [Act.put, List.setIfInBounds_toArray, List.set_cons_zero, List.set_cons_succ, List.getElem_toArray, List.getElem_cons_zero, List.getElem_cons_succ]
            refine wpAnyH_take (i := 8) (v := undef) rfl (by kernel_rfl) (by kernel_rfl) (by kernel_rfl) (fun _ _ _ h => h) (Or.inr ⟨by rfl, rfl⟩) (by assumption) ?_
            try simp only [Act.put, List.setIfInBounds_toArray, List.set_cons_zero, List.set_cons_succ, List.getElem_toArray, List.getElem_cons_zero, List.getElem_cons_succ]
            refine wpAnyH_take (i := 9) (v := undef) rfl (by kernel_rfl) (by kernel_rfl) (by kernel_rfl) (fun _ _ _ h => h) (Or.inr ⟨by rfl, rfl⟩) (by assumption) ?_
            try simp only [Act.put, List.setIfInBounds_toArray, List.set_cons_zero, List.set_cons_succ, List.getElem_toArray, List.getElem_cons_zero, List.getElem_cons_succ]
            refine wpAnyH_take (i := 10) (v := undef) rfl (by kernel_rfl) (by kernel_rfl) (by kernel_rfl) (fun _ _ _ h => h) (Or.inr ⟨by rfl, rfl⟩) (by assumption) ?_
            try simp only [Act.put, List.setIfInBounds_toArray, List.set_cons_zero, List.set_cons_succ, List.getElem_toArray, List.getElem_cons_zero, List.getElem_cons_succ]
            refine wpAnyH_take (i := 11) (v := undef) rfl (by kernel_rfl) (by kernel_rfl) (by kernel_rfl) (fun _ _ _ h => h) (Or.inr ⟨by rfl, rfl⟩) (by assumption) ?_
            try simp only [Act.put, List.setIfInBounds_toArray, List.set_cons_zero, List.set_cons_succ, List.getElem_toArray, List.getElem_cons_zero, List.getElem_cons_succ]
            refine wpAnyH_take (i := 12) (v := undef) rfl (by kernel_rfl) (by kernel_rfl) (by kernel_rfl) (fun _ _ _ h => h) (Or.inr ⟨by rfl, rfl⟩) (by assumption) ?_
            try simp only [Act.put, List.setIfInBounds_toArray, List.set_cons_zero, List.set_cons_succ, List.getElem_toArray, List.getElem_cons_zero, List.getElem_cons_succ]
            refine wpAnyH_take (i := 13) (v := undef) rfl (by kernel_rfl) (by kernel_rfl) (by kernel_rfl) (fun _ _ _ h => h) (Or.inr ⟨by rfl, rfl⟩) (by assumption) ?_
            try simp only [Act.put, List.setIfInBounds_toArray, List.set_cons_zero, List.set_cons_succ, List.getElem_toArray, List.getElem_cons_zero, List.getElem_cons_succ]
            refine wpAnyH_take (i := 14) (v := undef) rfl (by kernel_rfl) (by kernel_rfl) (by kernel_rfl) (fun _ _ _ h => h) (Or.inr ⟨by rfl, rfl⟩) (by assumption) ?_
            try simp only [Act.put, List.setIfInBounds_toArray, List.set_cons_zero, List.set_cons_succ, List.getElem_toArray, List.getElem_cons_zero, List.getElem_cons_succ]
            refine wpAnyH_take (i := 15) (v := undef) rfl (by kernel_rfl) (by kernel_rfl) (by kernel_rfl) (fun _ _ _ h => h) (Or.inr ⟨by rfl, rfl⟩) (by assumption) ?_
            try simp only [Act.put, List.setIfInBounds_toArray, List.set_cons_zero, List.set_cons_succ, List.getElem_toArray, List.getElem_cons_zero, List.getElem_cons_succ]
            refine wpAnyH_take (i := 16) (v := undef) rfl (by kernel_rfl) (by kernel_rfl) (by kernel_rfl) (fun _ _ _ h => h) (Or.inr ⟨by rfl, rfl⟩) (by assumption) ?_
            try simp only [Act.put, List.setIfInBounds_toArray, List.set_cons_zero, List.set_cons_succ, List.getElem_toArray, List.getElem_cons_zero, List.getElem_cons_succ]
            refine wpAnyH_take (i := 17) (v := ?_) rfl (by kernel_rfl) (by kernel_rfl) (by kernel_rfl) (fun _ _ _ h => h) (Or.inl ⟨by rfl, ?_⟩) (by assumption) ?_
            rotate_left
            · (intro w hSw; (try dsimp only at hSw); go_simp; try (with_reducible rfl))
            try simp only [Act.put, List.setIfInBounds_toArray, List.set_cons_zero, List.set_cons_succ, List.getElem_toArray, List.getElem_cons_zero, List.getElem_cons_succ]
            refine wpAnyH_done (by kernel_rfl) ?_ _
            refine NoPanic.normal ?_
            clear hHeld
            go_wp2_with fail
            go_roundw
            case rel => first | exact ⟨k + 1, _, _, _, _, _, _, by go_num, ⟨HD2.out.1, HD2.out.2.1, HD2.out.2.2.1, HD2.out.2.2.2, HB2.out.2.2.2.2.1, HB2.out.2.2.2.2.2.1, HB2.out.2.2.2.2.2.2, hT.out, hU.out, hW.out⟩, by omega⟩ | ((repeat apply Exists.intro); exact ⟨⟨k + 1, _, _, _, _, _, _, by go_num, ⟨HD2.out.1, HD2.out.2.1, HD2.out.2.2.1, HD2.out.2.2.2, HB2.out.2.2.2.2.1, HB2.out.2.2.2.2.2.1, HB2.out.2.2.2.2.2.2, hT.out, hU.out, hW.out⟩, by omega⟩, rfl⟩)
            case measure => simp [intOf]; omega
          · have hW := hat3.out hka
            obtain ⟨HW⟩ : Nonempty (Hid (Hold (putL Lw ((x0, x1), x2)) (outL L (k + 1) L[at0].1))) := ⟨hW⟩
            clear hW
            have hka' : ((k : Int) != (at0 : Int)) = true := by rw [bne_iff_ne]; omega
            clear hka
            obtain ⟨HC⟩ : Nonempty (Hid (Calls _ _ _ _ _)) := ⟨put_any tw Lw 60 x0 x1 x2 Fw E _ HD2.out.2.2.2.1 HD2.out.1.errs (fun b hb => Nat.le_trans hw (HD2.out.2.2.2.2 b hb)) (Nat.le_trans hw HD2.out.1.size)⟩
            rw [(HPX.out Lw HLE.out.2.2).1, (HPX.out Lw HLE.out.2.2).2] at HC
            simp only [ev] at HC
            go_wp2_with fail
            refine wp_region_noPanic ?_
            refine wp_region_held_drew (S := (fun w' => w'.cell? ⟨b, o + k * 3, none⟩ = some (.int .i64 x0) ∧ w'.cell? ⟨b, o + k * 3 + 1, none⟩ = some (.int .i64 x1) ∧ w'.cell? ⟨b, o + k * 3 + 2, none⟩ = some (.int .i64 x2))) (by kernel_rfl) ?_ (fun hHeld => ?_)
            · exact ⟨(HS.out _ HD2.out.1.below).1, (HS.out _ HD2.out.1.below).2.1, (HS.out _ HD2.out.1.below).2.2.1⟩
            refine wpAnyH_take (i := 0) (v := ?_) rfl (by kernel_rfl) (by kernel_rfl) (by kernel_rfl) (fun _ _ _ h => h) (Or.inl ⟨by rfl, ?_⟩) (by assumption) ?_
            rotate_left
            · (intro w hSw; (try dsimp only at hSw); go_simp; try (with_reducible rfl))
            try simp only [Act.put, List.setIfInBounds_toArray, List.set_cons_zero, List.set_cons_succ, List.getElem_toArray, List.getElem_cons_zero, List.getElem_cons_succ]
            refine wpAnyH_take (i := 1) (v := ?_) rfl (by kernel_rfl) (by kernel_rfl) (by kernel_rfl) (fun _ _ _ h => h) (Or.inl ⟨by rfl, ?_⟩) (by assumption) ?_
            rotate_left
            · (intro w hSw; (try dsimp only at hSw); go_simp; try (with_reducible rfl))
            try simp only [Act.put, List.setIfInBounds_toArray, List.set_cons_zero, List.set_cons_succ, List.getElem_toArray, List.getElem_cons_zero, List.getElem_cons_succ]
            refine wpAnyH_take (i := 2) (v := ?_) rfl (by kernel_rfl) (by kernel_rfl) (by kernel_rfl) (fun _ _ _ h => h) (Or.inl ⟨by rfl, ?_⟩) (by assumption) ?_
            rotate_left
            · (intro w hSw; (try dsimp only at hSw); go_simp; try (with_reducible rfl))
            try simp only [Act.put, List.setIfInBounds_toArray, List.set_cons_zero, List.set_cons_succ, List.getElem_toArray, List.getElem_cons_zero, List.getElem_cons_succ]
            refine wpAnyH_take (i := 3) (v := ?_) rfl (by kernel_rfl) (by kernel_rfl) (by kernel_rfl) (fun _ _ _ h => h) (Or.inl ⟨by rfl, ?_⟩) (by assumption) ?_
            rotate_left
            · (intro w hSw; (try dsimp only at hSw); go_simp; try (with_reducible rfl))
            try simp only [Act.put, List.setIfInBounds_toArray, List.set_cons_zero, List.set_cons_succ, List.getElem_toArray, List.getElem_cons_zero, List.getElem_cons_succ]
            refine wpAnyH_take (i := 4) (v := ?_) rfl (by kernel_rfl) (by kernel_rfl) (by kernel_rfl) (fun _ _ _ h => h) (Or.inl ⟨by rfl, ?_⟩) (by assumption) ?_
            rotate_left
            · (intro w hSw; (try dsimp only at hSw); go_simp; try (with_reducible rfl))
            try simp only [Act.put, List.setIfInBounds_toArray, List.set_cons_zero, List.set_cons_succ, List.getElem_toArray, List.getElem_cons_zero, List.getElem_cons_succ]
            refine wpAnyH_take (i := 5) (v := ?_) rfl (by kernel_rfl) (by kernel_rfl) (by kernel_rfl) (fun _ _ _ h => h) (Or.inl ⟨by rfl, ?_⟩) (by assumption) ?_
            rotate_left
            · (intro w hSw; (try dsimp only at hSw); go_simp; try (with_reducible rfl))
            try simp only [Act.put, List.setIfInBounds_toArray, List.set_cons_zero, List.set_cons_succ, List.getElem_toArray, List.getElem_cons_zero, List.getElem_cons_succ]
            refine wpAnyH_take (i := 6) (v := ?_) rfl (by kernel_rfl) (by kernel_rfl) (by kernel_rfl) (fun _ _ _ h => h) (Or.inl ⟨by rfl, ?_⟩) (by assumption) ?_
            rotate_left
            · (intro w hSw; (try dsimp only at hSw); go_simp; try (with_reducible rfl))
            try simp only [Act.put, List.setIfInBounds_toArray, List.set_cons_zero, List.set_cons_succ, List.getElem_toArray, List.getElem_cons_zero, List.getElem_cons_succ]
            refine wpAnyH_take (i := 7) (v := ?_) rfl (by kernel_rfl) (by kernel_rfl) (by kernel_rfl) (fun _ _ _ h => h) (Or.inl ⟨by rfl, ?_⟩) (by assumption) ?_
            rotate_left
            · (intro w hSw; (try dsimp only at hSw); go_simp; try (with_reducible rfl))
            try simp only [Act.put, List.setIfInBounds_toArray, List.set_cons_zero, List.set_cons_succ, List.getElem_toArray, List.getElem_cons_zero, List.getElem_cons_succ]
            refine wpAnyH_take (i := 8) (v := ?_) rfl (by kernel_rfl) (by kernel_rfl) (by kernel_rfl) (fun _ _ _ h => h) (Or.inl ⟨by rfl, ?_⟩) (by assumption) ?_
            rotate_left
            · (intro w hSw; (try dsimp only at hSw); go_simp; try (with_reducible rfl))
            try simp only [Act.put, List.setIfInBounds_toArray, List.set_cons_zero, List.set_cons_succ, List.getElem_toArray, List.getElem_cons_zero, List.getElem_cons_succ]
            refine wpAnyH_take (i := 9) (v := ?_) rfl (by kernel_rfl) (by kernel_rfl) (by kernel_rfl) (fun _ _ _ h => h) (Or.inl ⟨by rfl, ?_⟩) (by assumption) ?_
            rotate_left
            · (intro w hSw; (try dsimp only at hSw); go_simp; try (with_reducible rfl))
            try simp only [Act.put, List.setIfInBounds_toArray, List.set_cons_zero, List.set_cons_succ, List.getElem_toArray, List.getElem_cons_zero, List.getElem_cons_succ]
            refine wpAnyH_take (i := 10) (v := ?_) rfl (by kernel_rfl) (by kernel_rfl) (by kernel_rfl) (fun _ _ _ h => h) (Or.inl ⟨by rfl, ?_⟩) (by assumption) ?_
            rotate_left
            · (intro w hSw; (try dsimp only at hSw); go_simp; try (with_reducible rfl))
            try simp only [Act.put, List.setIfInBounds_toArray, List.set_cons_zero, List.set_cons_succ, List.getElem_toArray, List.getElem_cons_zero, List.getElem_cons_succ]
            refine wpAnyH_take (i := 11) (v := ?_) rfl (by kernel_rfl) (by kernel_rfl) (by kernel_rfl) (fun _ _ _ h => h) (Or.inl ⟨by rfl, ?_⟩) (by assumption) ?_
            rotate_left
            · (intro w hSw; (try dsimp only at hSw); go_simp; try (with_reducible rfl))
            try simp only [Act.put, List.setIfInBounds_toArray, List.set_cons_zero, List.set_cons_succ, List.getElem_toArray, List.getElem_cons_zero, List.getElem_cons_succ]
            refine wpAnyH_take (i := 12) (v := ?_) rfl (by kernel_rfl) (by kernel_rfl) (by kernel_rfl) (fun _ _ _ h => h) (Or.inl ⟨by rfl, ?_⟩) (by assumption) ?_
            rotate_left
            · (intro w hSw; (try dsimp only at hSw); go_simp; try (with_reducible rfl))
            try simp only [Act.put, List.setIfInBounds_toArray, List.set_cons_zero, List.set_cons_succ, List.getElem_toArray, List.getElem_cons_zero, List.getElem_cons_succ]
            refine wpAnyH_take (i := 13) (v := ?_) rfl (by kernel_rfl) (by kernel_rfl) (by kernel_rfl) (fun _ _ _ h => h) (Or.inl ⟨by rfl, ?_⟩) (by assumption) ?_
            rotate_left
            · (intro w hSw; (try dsimp only at hSw); go_simp; try (with_reducible rfl))
            try simp only [Act.put, List.setIfInBounds_toArray, List.set_cons_zero, List.set_cons_succ, List.getElem_toArray, List.getElem_cons_zero, List.getElem_cons_succ]
            refine wpAnyH_take (i := 14) (v := ?_) rfl (by kernel_rfl) (by kernel_rfl) (by kernel_rfl) (fun _ _ _ h => h) (Or.inl ⟨by rfl, ?_⟩) (by assumption) ?_
            rotate_left
            · (intro w hSw; (try dsimp only at hSw); go_simp; try (with_reducible rfl))
            try simp only [Act.put, List.setIfInBounds_toArray, List.set_cons_zero, List.set_cons_succ, List.getElem_toArray, List.getElem_cons_zero, List.getElem_cons_succ]
            refine wpAnyH_ready (rs := [15]) (by kernel_rfl) (by simp) ?_
            refine AllReadyH.cons rfl (fun K hK => ?_) AllReadyH.nil
            go_simp
            refine HC.out.mono ?_
            clear HC
            intro e w7 hp
            obtain ⟨rfl, Fw', ow, iw, -, kw, sw⟩ := hp.law HD2.out.1 HD2.out.2.2.2
            obtain ⟨HE⟩ : Nonempty (Hid (Three B w w7 E L (k + 1) L[at0].1 tt tu tw (putL Lt ((x0, x1), x2)) (putL Lu ((y0, y1), y2)) (putL Lw ((x0, x1), x2)) Ft' Fu' Fw')) := ⟨⟨iw, HD2.out.2.1.beside kw HB2.out.2.2.2.2.2.1, HD2.out.2.2.1.beside kw HB2.out.2.2.2.2.2.2, ow, HB2.out.2.2.2.2.1, apart_next HD2.out.2.1 sw HB2.out.2.2.2.2.2.1, apart_next HD2.out.2.2.1 sw HB2.out.2.2.2.2.2.2, hT.out, hU.out, HW.out⟩⟩
            clear ow iw kw sw hp HB2 HD2 HW
            refine hK.out _ _ ?_ (fun hHeld => ?_)
            · exact ⟨(HS.out _ HE.out.ins.below).1, (HS.out _ HE.out.ins.below).2.1, (HS.out _ HE.out.ins.below).2.2.1⟩
            clear hK K
            try simp only [Act.put, List.setIfInBounds_toArray, List.set_cons_zero, List.set_cons_succ, List.getElem_toArray, List.getElem_cons_zero, List.getElem_cons_succ]
            refine wpAnyH_take (i := 16) (v := ?_) rfl (by kernel_rfl) (by kernel_rfl) (by kernel_rfl) (fun _ _ _ h => h) (Or.inl ⟨by rfl, ?_⟩) (by assumption) ?_
            rotate_left
            · (intro w hSw; (try dsimp only at hSw); go_simp; try (with_reducible rfl))
            try simp only [Act.put, List.setIfInBounds_toArray, List.set_cons_zero, List.set_cons_succ, List.getElem_toArray, List.getElem_cons_zero, List.getElem_cons_succ]
            refine wpAnyH_take (i := 17) (v := ?_) rfl (by kernel_rfl) (by kernel_rfl) (by kernel_rfl) (fun _ _ _ h => h) (Or.inl ⟨by rfl, ?_⟩) (by assumption) ?_
            rotate_left
            · (intro w hSw; (try dsimp only at hSw); go_simp; try (with_reducible rfl))
            try simp only [Act.put, List.setIfInBounds_toArray, List.set_cons_zero, List.set_cons_succ, List.getElem_toArray, List.getElem_cons_zero, List.getElem_cons_succ]
            refine wpAnyH_done (by kernel_rfl) ?_ _
            refine NoPanic.normal ?_
            clear hHeld
            go_wp2_with fail
            go_roundw
            case rel => first | exact ⟨k + 1, _, _, _, _, _, _, by go_num, HE, by omega⟩ | ((repeat apply Exists.intro); exact ⟨⟨k + 1, _, _, _, _, _, _, by go_num, HE, by omega⟩, rfl⟩)
            case measure => simp [intOf]; omega
        · as_aux_lemma =>
          obtain rfl : k = L.length := by omega
          clear hlt hkl
          have hTe : Lt = Lu := hold_eq H3.out.t.1.srt H3.out.u.1.srt (by have := H3.out.ht; rwa [List.take_length] at this) (by have := H3.out.hu; rwa [Nat.sub_self, List.drop_zero] at this)
          subst hTe
          have hWe : Lw = dropL Lt L[at0].1 := hold_out H3.out.t.1.srt H3.out.w.1.srt (by have := H3.out.ht; rwa [List.take_length] at this) H3.out.hw
          subst hWe
          obtain ⟨HLL⟩ : Nonempty (Hid (Lt.length = L.length ∧ hasL Lt L[at0].1 = true)) := ⟨⟨by rw [H3.out.ht.1, List.take_length], (hasL_iff _ _).2 ⟨L[at0], (H3.out.ht.2 _).2 (by rw [List.take_length]; exact List.getElem_mem hat'), rfl⟩⟩⟩
          obtain ⟨b, o, rfl, c0, c1, c2⟩ := HL.out at0 hat'
          have hrq : rt L[at0].1.1 L[at0].1.2 = true := (HFI.out at0 hat' hat').1
          obtain ⟨⟨x0, x1⟩, hx⟩ : ∃ x, Hid (L[at0].1 = x) := ⟨_, show _ = _ from rfl⟩
          rw [hx.out] at H3 HLL hrq c0 c1
          simp only at c0 c1 hrq
          obtain ⟨HS⟩ : Nonempty (Hid (∀ w', Below B w w' → w'.cell? ⟨b, o + at0 * 3, none⟩ = some (.int .i64 x0) ∧ w'.cell? ⟨b, o + at0 * 3 + 1, none⟩ = some (.int .i64 x1))) := ⟨fun w' hb => by
            rw [← show w.heap.size = B from hB.out] at hb
            exact ⟨cell_kept hb c0, cell_kept hb c1⟩⟩
          clear c0 c1 c2
          obtain ⟨HC⟩ : Nonempty (Hid (Calls _ _ _ _ _)) := ⟨find_any tt Lt 60 a Ft E _ H3.out.t.1 H3.out.ins.errs⟩
          go_wp2_with fail
          refine HC.out.mono ?_
          clear HC
          rintro e w5 ⟨o1, hl1, rfl, hb5⟩
          obtain ⟨⟨⟨y0, y1⟩, y2⟩, hy⟩ : ∃ x, Hid (accE o1 = x) := ⟨_, show _ = _ from rfl⟩
          rw [show accE o1 = ((y0, y1), y2) from hy.out]
          simp only
          have hbA := hb5.trans ((below_alloc w5 (.cells #[.int .i64 y0, .int .i64 y1] 36)).mono hb5.size)
          have hrA := Go.heap_alloc_new w5 (.cells #[.int .i64 y0, .int .i64 y1] 36)
          obtain ⟨HA⟩ : Nonempty (Hid (Longest Lt a o1 ∧ Three B w (w5.alloc (.cells #[.int .i64 y0, .int .i64 y1] 36)) E L L.length (x0, x1) tt tu tw Lt Lt (dropL Lt (x0, x1)) Ft Fu Fw ∧ (w5.alloc (.cells #[.int .i64 y0, .int .i64 y1] 36)).heap[w5.heap.size]? = some (.cells #[.int .i64 y0, .int .i64 y1] 36 (0, 0)))) := ⟨⟨hl1, ⟨H3.out.ins.all hbA, H3.out.t.all hbA, H3.out.u.all hbA, H3.out.w.all hbA, H3.out.tu, H3.out.tw, H3.out.uw, H3.out.ht, H3.out.hu, H3.out.hw⟩, hrA⟩⟩
          obtain ⟨HFAR⟩ : Nonempty (Hid ((∀ b ∈ Ft, b < w5.heap.size) ∧ (∀ b ∈ Fw, b < w5.heap.size))) := ⟨⟨(H3.out.t.all hb5).1.lt, (H3.out.w.all hb5).1.lt⟩⟩
          obtain ⟨HS1p⟩ : Nonempty (Hid (B ≤ w5.heap.size)) := ⟨(H3.out.ins.all hb5).size⟩
          clear hl1 hb5 hbA hrA H3
          obtain ⟨HS1⟩ : Nonempty (Hid (B ≤ w5.heap.size)) := ⟨HS1p.out⟩
          clear HS1p
          obtain ⟨s1, hs1⟩ : ∃ x, Hid (w5.heap.size = x) := ⟨_, show _ = _ from rfl⟩
          obtain ⟨W5, hW5⟩ : ∃ x, Hid (w5.alloc (.cells #[.int .i64 y0, .int .i64 y1] 36) = x) := ⟨_, show _ = _ from rfl⟩
          rw [show w5.alloc (.cells #[.int .i64 y0, .int .i64 y1] 36) = W5 from hW5.out, show w5.heap.size = s1 from hs1.out] at HA
          rw [show w5.heap.size = s1 from hs1.out] at HFAR
          obtain ⟨HC⟩ : Nonempty (Hid (Calls _ _ _ _ _)) := ⟨find_any tu Lt 60 a Fu E _ HA.out.2.1.u.1 HA.out.2.1.ins.errs⟩
          go_upto_region 28 with fail
          rw [show w5.alloc (.cells #[.int .i64 y0, .int .i64 y1] 36) = W5 from hW5.out, show w5.heap.size = s1 from hs1.out]
          go_wp2_with fail
          refine HC.out.mono ?_
          clear HC
          rintro e w6 ⟨o2, hl2, rfl, hb6⟩
          obtain rfl : o1 = o2 := longest_unique HA.out.2.1.t.1.srt HA.out.2.1.t.1.rts HA.out.1 hl2
          rw [show accE o1 = ((y0, y1), y2) from hy.out]
          simp only
          have hbA := hb6.trans ((below_alloc w6 (.cells #[.int .i64 y0, .int .i64 y1] 36)).mono hb6.size)
          have hrA := Go.heap_alloc_new w6 (.cells #[.int .i64 y0, .int .i64 y1] 36)
          obtain ⟨HG⟩ : Nonempty (Hid (Three B w (w6.alloc (.cells #[.int .i64 y0, .int .i64 y1] 36)) E L L.length (x0, x1) tt tu tw Lt Lt (dropL Lt (x0, x1)) Ft Fu Fw ∧ (w6.alloc (.cells #[.int .i64 y0, .int .i64 y1] 36)).heap[w6.heap.size]? = some (.cells #[.int .i64 y0, .int .i64 y1] 36 (0, 0)) ∧ (w6.alloc (.cells #[.int .i64 y0, .int .i64 y1] 36)).heap[s1]? = some (.cells #[.int .i64 y0, .int .i64 y1] 36 (0, 0)) ∧ s1 < w6.heap.size)) := ⟨⟨⟨HA.out.2.1.ins.all hbA, HA.out.2.1.t.all hbA, HA.out.2.1.u.all hbA, HA.out.2.1.w.all hbA, HA.out.2.1.tu, HA.out.2.1.tw, HA.out.2.1.uw, HA.out.2.1.ht, HA.out.2.1.hu, HA.out.2.1.hw⟩, hrA, by rw [hbA.block s1 (Array.getElem?_eq_some_iff.1 HA.out.2.2).1]; exact HA.out.2.2, Nat.lt_of_lt_of_le (Array.getElem?_eq_some_iff.1 HA.out.2.2).1 hb6.size⟩⟩
          clear hl2 hb6 hbA hrA HA
          obtain ⟨s2, hs2⟩ : ∃ x, Hid (w6.heap.size = x) := ⟨_, show _ = _ from rfl⟩
          obtain ⟨W6, hW6⟩ : ∃ x, Hid (w6.alloc (.cells #[.int .i64 y0, .int .i64 y1] 36) = x) := ⟨_, show _ = _ from rfl⟩
          rw [show w6.alloc (.cells #[.int .i64 y0, .int .i64 y1] 36) = W6 from hW6.out, show w6.heap.size = s2 from hs2.out] at HG
          obtain ⟨e0, e1, e2, e3⟩ := pre_cells HG.out.2.2.1
          obtain ⟨g0, g1, g2, g3⟩ := pre_cells HG.out.2.1
          obtain ⟨c0, c1⟩ := HS.out _ HG.out.1.ins.below
          have hbits : (y0 != y0) = false := by simp
          have hdc : dropC Lt x0 x1 = 0 ∧ dropS Lt x0 x1 = dropL Lt (x0, x1) := by
            have h : dropC Lt x0 x1 = 0 := by unfold dropC; rw [if_pos hrq, if_pos HLL.out.2]
            exact ⟨h, by unfold dropS; rw [if_pos h]⟩
          obtain ⟨HC⟩ : Nonempty (Hid (Calls _ _ _ _ _)) := ⟨drop_any tt Lt 60 x0 x1 Ft E _ HG.out.1.t.1 HG.out.1.ins.errs (fun b hb => Nat.le_trans hw (HG.out.1.t.2 b hb)) (Nat.le_trans hw HG.out.1.ins.size)⟩
          rw [hdc.1, hdc.2] at HC
          simp only [ev] at HC
          clear hdc hbits
          go_upto_region 29 with fail
          rw [show w6.alloc (.cells #[.int .i64 y0, .int .i64 y1] 36) = W6 from hW6.out, show w6.heap.size = s2 from hs2.out]
          go_wp2_with fail
          refine HC.out.mono ?_
          clear HC
          intro e w7 hp
          obtain ⟨rfl, Ft', ot, it, -, kt, st⟩ := hp.law HG.out.1.ins HG.out.1.t
          have hlt12 : s1 < s2 := HG.out.2.2.2
          have hs2W : s2 < W6.heap.size := (Array.getElem?_eq_some_iff.1 HG.out.2.1).1
          have nf1 : s1 ∉ Ft := fun h => by have := HFAR.out.1 s1 h; omega
          have nf2 : s2 ∉ Ft := fun h => by have := HFAR.out.1 s2 h; omega
          obtain ⟨HX⟩ : Nonempty (Hid (In0 B E w w7 ∧ Own B w7 tt (dropL Lt (x0, x1)) 60 Ft' ∧ Own B w7 tw (dropL Lt (x0, x1)) 60 Fw ∧ w7.heap[s1]? = some (.cells #[.int .i64 y0, .int .i64 y1] 36 (0, 0)) ∧ w7.heap[s2]? = some (.cells #[.int .i64 y0, .int .i64 y1] 36 (0, 0)) ∧ s1 ∉ Ft' ∧ s2 ∉ Ft' ∧ s1 ∉ Fw ∧ s2 ∉ Fw ∧ B ≤ s1 ∧ s1 < s2)) := ⟨⟨it, ot, HG.out.1.w.beside kt (apart_symm HG.out.1.tw), kt.heap HG.out.2.2.1 nf1, kt.heap HG.out.2.1 nf2, fun h => by (rcases st s1 h with h | h; exact nf1 h; omega), fun h => by (rcases st s2 h with h | h; exact nf2 h; omega), fun h => by (have := HFAR.out.2 s1 h; omega), fun h => by (have := HFAR.out.2 s2 h; omega), by rw [← hs1.out]; exact HS1.out, hlt12⟩⟩
          have hcnt : Hid (((dropL Lt (x0, x1)).length : Int) = (L.length : Int) - 1) := by have h1 := drop_length HG.out.1.t.1.srt HLL.out.2; have h2 := HLL.out.1; rw [Hid]; omega
          obtain ⟨dn, hdn⟩ : ∃ x, Hid ((dropL Lt (x0, x1)).length = x) := ⟨_, show _ = _ from rfl⟩
          have hcn : ((dn : Int) == (L.length : Int) - 1) = true := by rw [beq_iff_eq, ← hdn.out]; exact hcnt.out
          have hpos : 0 < (L.length : Int) := by omega
          clear e0 e1 e2 e3 g0 g1 g2 g3 c0 c1 ot it kt st hp nf1 nf2 HG hs2W
          obtain ⟨HC⟩ : Nonempty (Hid (Calls _ _ _ _ _)) := ⟨find_any tt (dropL Lt (x0, x1)) 60 a Ft' E _ HX.out.2.1.1 HX.out.1.errs⟩
          go_wp2_with fail
          refine HC.out.mono ?_
          clear HC
          rintro e w8 ⟨o3, hl3, rfl, hb8⟩
          obtain ⟨⟨⟨z0, z1⟩, z2⟩, hz⟩ : ∃ x, Hid (accE o3 = x) := ⟨_, show _ = _ from rfl⟩
          rw [show accE o3 = ((z0, z1), z2) from hz.out]
          simp only
          have hr1 : w8.heap[s1]? = some (.cells #[.int .i64 y0, .int .i64 y1] 36 (0, 0)) := by rw [hb8.block s1 (Array.getElem?_eq_some_iff.1 HX.out.2.2.2.1).1]; exact HX.out.2.2.2.1
          have hr2 : w8.heap[s2]? = some (.cells #[.int .i64 y0, .int .i64 y1] 36 (0, 0)) := by rw [hb8.block s2 (Array.getElem?_eq_some_iff.1 HX.out.2.2.2.2.1).1]; exact HX.out.2.2.2.2.1
          obtain ⟨e0, e1, e2, e3⟩ := pre_cells hr1
          have kp : Kept [s1] w8 ((w8.setCell ⟨s1, 0, none⟩ (.int .i64 z0)).setCell ⟨s1, 1, none⟩ (.int .i64 z1)) := ((Kept.refl _ _).setCell (.inl (by simp)) _).setCell (.inl (by simp)) _
          have hbk := kp.below (HX.out.1.all hb8).size (by simpa using HX.out.2.2.2.2.2.2.2.2.2.1)
          obtain ⟨HY⟩ : Nonempty (Hid (Longest (dropL Lt (x0, x1)) a o3 ∧ In0 B E w ((w8.setCell ⟨s1, 0, none⟩ (.int .i64 z0)).setCell ⟨s1, 1, none⟩ (.int .i64 z1)) ∧ Own B ((w8.setCell ⟨s1, 0, none⟩ (.int .i64 z0)).setCell ⟨s1, 1, none⟩ (.int .i64 z1)) tt (dropL Lt (x0, x1)) 60 Ft' ∧ Own B ((w8.setCell ⟨s1, 0, none⟩ (.int .i64 z0)).setCell ⟨s1, 1, none⟩ (.int .i64 z1)) tw (dropL Lt (x0, x1)) 60 Fw ∧ ((w8.setCell ⟨s1, 0, none⟩ (.int .i64 z0)).setCell ⟨s1, 1, none⟩ (.int .i64 z1)).heap[s1]? = some (.cells #[.int .i64 z0, .int .i64 z1] 36 (0, 0)) ∧ ((w8.setCell ⟨s1, 0, none⟩ (.int .i64 z0)).setCell ⟨s1, 1, none⟩ (.int .i64 z1)).heap[s2]? = some (.cells #[.int .i64 y0, .int .i64 y1] 36 (0, 0)))) := ⟨⟨hl3, (HX.out.1.all hb8).next hbk, (HX.out.2.1.all hb8).beside kp (fun b hb hm => HX.out.2.2.2.2.2.1 (by simp at hm; exact hm ▸ hb)), (HX.out.2.2.1.all hb8).beside kp (fun b hb hm => HX.out.2.2.2.2.2.2.2.1 (by simp at hm; exact hm ▸ hb)), node_set (node_set hr1 0 _) 1 _, kp.heap hr2 (by simp; omega)⟩⟩
          clear hl3 hb8 hr1 hr2 kp hbk
          obtain ⟨X8, hX8⟩ : ∃ x, Hid ((w8.setCell ⟨s1, 0, none⟩ (.int .i64 z0)).setCell ⟨s1, 1, none⟩ (.int .i64 z1) = x) := ⟨_, show _ = _ from rfl⟩
          rw [show (w8.setCell ⟨s1, 0, none⟩ (.int .i64 z0)).setCell ⟨s1, 1, none⟩ (.int .i64 z1) = X8 from hX8.out] at HY
          obtain ⟨HC⟩ : Nonempty (Hid (Calls _ _ _ _ _)) := ⟨find_any tw (dropL Lt (x0, x1)) 60 a Fw E _ HY.out.2.2.2.1.1 HY.out.2.1.errs⟩
          go_upto_region 32 with fail
          rw [show (w8.setCell ⟨s1, 0, none⟩ (.int .i64 z0)).setCell ⟨s1, 1, none⟩ (.int .i64 z1) = X8 from hX8.out]
          clear e0 e1 e2 e3
          go_wp2_with fail
          refine HC.out.mono ?_
          clear HC
          rintro e w9 ⟨o4, hl4, rfl, hb9⟩
          obtain rfl : o3 = o4 := longest_unique HY.out.2.2.1.1.srt HY.out.2.2.1.1.rts HY.out.1 hl4
          rw [show accE o3 = ((z0, z1), z2) from hz.out]
          simp only
          have hr1 : w9.heap[s1]? = some (.cells #[.int .i64 z0, .int .i64 z1] 36 (0, 0)) := by rw [hb9.block s1 (Array.getElem?_eq_some_iff.1 HY.out.2.2.2.2.1).1]; exact HY.out.2.2.2.2.1
          have hr2 : w9.heap[s2]? = some (.cells #[.int .i64 y0, .int .i64 y1] 36 (0, 0)) := by rw [hb9.block s2 (Array.getElem?_eq_some_iff.1 HY.out.2.2.2.2.2).1]; exact HY.out.2.2.2.2.2
          obtain ⟨e0, e1, e2, e3⟩ := pre_cells hr2
          have kp : Kept [s2] w9 ((w9.setCell ⟨s2, 0, none⟩ (.int .i64 z0)).setCell ⟨s2, 1, none⟩ (.int .i64 z1)) := ((Kept.refl _ _).setCell (.inl (by simp)) _).setCell (.inl (by simp)) _
          have hbk := kp.below (HY.out.2.1.all hb9).size (by have h1 := HX.out.2.2.2.2.2.2.2.2.2.1; have h2 := HX.out.2.2.2.2.2.2.2.2.2.2; simp; omega)
          obtain ⟨HZ⟩ : Nonempty (Hid (In0 B E w ((w9.setCell ⟨s2, 0, none⟩ (.int .i64 z0)).setCell ⟨s2, 1, none⟩ (.int .i64 z1)) ∧ Own B ((w9.setCell ⟨s2, 0, none⟩ (.int .i64 z0)).setCell ⟨s2, 1, none⟩ (.int .i64 z1)) tt (dropL Lt (x0, x1)) 60 Ft' ∧ Own B ((w9.setCell ⟨s2, 0, none⟩ (.int .i64 z0)).setCell ⟨s2, 1, none⟩ (.int .i64 z1)) tw (dropL Lt (x0, x1)) 60 Fw ∧ ((w9.setCell ⟨s2, 0, none⟩ (.int .i64 z0)).setCell ⟨s2, 1, none⟩ (.int .i64 z1)).heap[s2]? = some (.cells #[.int .i64 z0, .int .i64 z1] 36 (0, 0)) ∧ ((w9.setCell ⟨s2, 0, none⟩ (.int .i64 z0)).setCell ⟨s2, 1, none⟩ (.int .i64 z1)).heap[s1]? = some (.cells #[.int .i64 z0, .int .i64 z1] 36 (0, 0)))) := ⟨⟨(HY.out.2.1.all hb9).next hbk, (HY.out.2.2.1.all hb9).beside kp (fun b hb hm => HX.out.2.2.2.2.2.2.1 (by simp at hm; exact hm ▸ hb)), (HY.out.2.2.2.1.all hb9).beside kp (fun b hb hm => HX.out.2.2.2.2.2.2.2.2.1 (by simp at hm; exact hm ▸ hb)), node_set (node_set hr2 0 _) 1 _, kp.heap hr1 (by simp; omega)⟩⟩
          clear hl4 hb9 hr1 hr2 kp hbk
          obtain ⟨X9, hX9⟩ : ∃ x, Hid ((w9.setCell ⟨s2, 0, none⟩ (.int .i64 z0)).setCell ⟨s2, 1, none⟩ (.int .i64 z1) = x) := ⟨_, show _ = _ from rfl⟩
          rw [show (w9.setCell ⟨s2, 0, none⟩ (.int .i64 z0)).setCell ⟨s2, 1, none⟩ (.int .i64 z1) = X9 from hX9.out] at HZ
          obtain ⟨HC⟩ : Nonempty (Hid (Calls _ _ _ _ _)) := ⟨count_any' tt (dropL Lt (x0, x1)) 60 Ft' X9 HZ.out.2.1.1⟩
          obtain ⟨HC2⟩ : Nonempty (Hid (Calls _ _ _ _ _)) := ⟨count_any' tw (dropL Lt (x0, x1)) 60 Fw X9 HZ.out.2.2.1.1⟩
          rw [show (dropL Lt (x0, x1)).length = dn from hdn.out] at HC HC2
          go_upto_region 33 with fail
          rw [show (w9.setCell ⟨s2, 0, none⟩ (.int .i64 z0)).setCell ⟨s2, 1, none⟩ (.int .i64 z1) = X9 from hX9.out]
          clear e0 e1 e2 e3
          obtain ⟨e0, e1, -, -⟩ := pre_cells HZ.out.2.2.2.1
          obtain ⟨g0, g1, -, -⟩ := pre_cells HZ.out.2.2.2.2
          go_wp2_with fail
          refine HC.out.mono ?_
          clear HC
          rintro e wa ⟨rfl, hwa⟩
          subst hwa
          go_wp2_with fail
          refine HC2.out.mono ?_
          clear HC2
          rintro e wb ⟨rfl, hwb⟩
          subst hwb
          go_wp2_with fail
          go_ret
          exact ⟨rfl, HZ.out.1.below⟩
end Go.Proofs.YthehpnhjfnenoabDoor
