/-
  Package attr's changed at an attribute that is right, and a change with two variables captured.
-/
import Derived.Test.YtkebcfjofeoehaaGreatDoorAttrChange
namespace Go.Proofs.YtkebcfjofeoehaaGreatDoor
open Go.RowKit

set_option linter.unusedSimpArgs false in
set_option linter.unusedVariables false in
set_option maxRecDepth 100000 in
set_option maxHeartbeats 4000000 in
theorem changed_right2 (v : Value) (A A' : At) (f : Nat) (kv1 kv2 : Value) (c : Nat) (E : Nat → Addr) (m : Int) (w : World) (hE : AttrEnv w E m) (h : AttrK w v A) (hA : RightA A) (hq : Changer2 f kv1 kv2 E c A A' w.heap.size w) :
    Calls Tryz.prog 36 #[v, .func (.func f) #[] #[kv1, kv2]] w fun r w' => (∃ v', r = .returned (.tuple #[v', ev E c]) ∧ AttrG w' v' (if c = 0 then A' else noneA) w.heap.size) ∧ Below w.heap.size w w' := by
  have HC : Hid (∀ w', Below w.heap.size w w' → Calls _ _ _ _ _) := fun w' hb => aCheck_any v A E m w' (hE.below hb) (h.attr.below hb) (by have := hA.path; omega) (by have := hA.tags; omega)
  rw [fault_of_right hA] at HC
  obtain ⟨p, cp, q, cq, rfl, i1, i2, k1, k2⟩ := h
  have HCP : Hid (∀ w', Below w.heap.size w w' → Calls _ _ _ _ _) := fun w' hb => clone_any p A.path cp w' (i1.below hb) k1 (by have := hA.path; omega)
  have HCT : Hid (∀ w', Below w.heap.size w w' → Calls _ _ _ _ _) := fun w' hb => clone_any q A.tags cq w' (i2.below hb) k2 (by have := hA.tags; omega)
  have heg := hq.enters
  obtain ⟨HQ⟩ : Nonempty (Hid (Changer2 f kv1 kv2 E c A A' w.heap.size w)) := ⟨hq⟩
  obtain ⟨B, hB⟩ : ∃ B, Hid (w.heap.size = B) := ⟨_, show _ = _ from rfl⟩
  obtain ⟨P, f0, n, o, T⟩ := A
  simp only at *
  clear hA i1 i2 k1 k2 hE hq
  go_enter Tryz.func36, Tryz.ntmps36
  go_wp2_with fail
  refine (HC.out _ (below_two _ _ _)).mono ?_
  rintro e w1 ⟨⟨v1, rfl, hv1⟩, hb1⟩
  rcases isErr_cases hv1 with ⟨-, rfl⟩ | ⟨h0, -⟩
  case inr => exact absurd h0 (by simp)
  have hx := (ax_start w _ _).on hb1
  obtain ⟨HA0⟩ : Nonempty (Hid (AX w w1.drew w.heap.size _ _)) := ⟨hx.on (Below.refl _ _).drew⟩
  clear hb1 hx HC hv1
  rw [show w.heap.size = B from hB.out] at HA0 HCP HCT HQ ⊢
  go_upto_region 4 with fail
  go_cut [] from 8 (fun w' => ∃ wx : World, Hid (AP wx B ⟨P, f0, n, o, T⟩ ∧ wx.heap[B + 1]? = some (.cells #[.slice none 0 0, .int .i64 0, .int .i64 0, .int .i64 0, .slice none 0 0] 24 (0, 0)) ∧ Below B w wx) ∧ wx = w')
  case first J0 K0 hJ0 hK0 =>
    refine wp_region_noPanic ?_
    refine wp_region_held_drew (S := (fun _ => True)) (by kernel_rfl) ?_ (fun hHeld => ?_)
    · trivial
    refine wpAnyH_take (i := 0) (v := ?_) rfl (by kernel_rfl) (by kernel_rfl) (by kernel_rfl) (fun _ _ _ h => h) (Or.inl ⟨by rfl, ?_⟩) (by assumption) ?_
    rotate_left
    · (intro w hSw; (try dsimp only at hSw); go_simp; try (with_reducible rfl))
    try simp only [Act.put, List.setIfInBounds_toArray, List.set_cons_zero, List.set_cons_succ, List.getElem_toArray, List.getElem_cons_zero, List.getElem_cons_succ]
    refine wpAnyH_take (i := 3) (v := ?_) rfl (by kernel_rfl) (by kernel_rfl) (by kernel_rfl) (fun _ _ _ h => h) (Or.inl ⟨by rfl, ?_⟩) (by assumption) ?_
    rotate_left
    · (intro w hSw; (try dsimp only at hSw); go_simp; try (with_reducible rfl))
    try simp only [Act.put, List.setIfInBounds_toArray, List.set_cons_zero, List.set_cons_succ, List.getElem_toArray, List.getElem_cons_zero, List.getElem_cons_succ]
    refine wpAnyH_ready (rs := [1, 4]) (by kernel_rfl) (by simp) ?_
    refine (AllReadyH.cons rfl (fun K hK => ?_) (AllReadyH.cons rfl (fun K hK => ?_) AllReadyH.nil))
    · skip
      obtain ⟨a0, a1, a2, a3, a4⟩ := HA0.out.arg
      go_simp
      refine hK.out _ _ trivial (fun hHeld => ?_)
      clear hK K a0 a1 a2 a3 a4
      try simp only [Act.put, List.setIfInBounds_toArray, List.set_cons_zero, List.set_cons_succ, List.getElem_toArray, List.getElem_cons_zero, List.getElem_cons_succ]
      refine wpAnyH_ready (rs := [2, 4]) (by kernel_rfl) (by simp) ?_
      refine (AllReadyH.cons rfl (fun K hK => ?_) (AllReadyH.cons rfl (fun K hK => ?_) AllReadyH.nil))
      · skip
        go_simp
        refine (HCP.out _ HA0.out.2.2).mono ?_
        rintro r x1 ⟨⟨v, rfl, ho⟩, hb⟩
        obtain ⟨p1, c1, rfl, -, -, hf⟩ := own_kind' ho
        obtain ⟨HA1⟩ : Nonempty (Hid (AX w x1 B _ _)) := ⟨HA0.out.on hb⟩
        obtain ⟨HP1⟩ : Nonempty (Hid (World.ownsRow x1 (B + 2) 3 1 (.slice p1 P.length c1) P.length (P.map intV))) := ⟨⟨ho.1, ho.2.imp id fun ⟨g, cap, cur, h1, h2, h3⟩ => ⟨g, cap, cur, h1, Nat.le_trans (Array.getElem?_eq_some_iff.1 HA0.out.2.1).1 h2, h3⟩⟩⟩
        refine hK.out _ _ trivial (fun hHeld => ?_)
        clear hK K ho hb hf
        try simp only [Act.put, List.setIfInBounds_toArray, List.set_cons_zero, List.set_cons_succ, List.getElem_toArray, List.getElem_cons_zero, List.getElem_cons_succ]
        refine wpAnyH_ready (rs := [4]) (by kernel_rfl) (by simp) ?_
        refine AllReadyH.cons rfl (fun K hK => ?_) AllReadyH.nil
        obtain ⟨a0, a1, a2, a3, a4⟩ := HA1.out.arg
        go_simp
        refine hK.out _ _ trivial (fun hHeld => ?_)
        clear hK K a0 a1 a2 a3 a4
        try simp only [Act.put, List.setIfInBounds_toArray, List.set_cons_zero, List.set_cons_succ, List.getElem_toArray, List.getElem_cons_zero, List.getElem_cons_succ]
        refine wpAnyH_ready (rs := [5]) (by kernel_rfl) (by simp) ?_
        refine AllReadyH.cons rfl (fun K hK => ?_) AllReadyH.nil
        go_simp
        refine (HCT.out _ HA1.out.2.2).mono ?_
        rintro r x2 ⟨⟨v, rfl, ho⟩, hb⟩
        obtain ⟨p2, c2, rfl, -, -, hf⟩ := own_kind' ho
        obtain ⟨HA2⟩ : Nonempty (Hid (AX w x2 B _ _)) := ⟨HA1.out.on hb⟩
        obtain ⟨HP2⟩ : Nonempty (Hid (World.ownsRow x2 (B + 2) 3 1 (.slice p1 P.length c1) P.length (P.map intV))) := ⟨aOwn_below HP1.out hb⟩
        obtain ⟨HT2⟩ : Nonempty (Hid (∃ S, World.ownsRow x2 S 3 1 (.slice p2 T.length c2) T.length (T.map intV) ∧ B + 2 ≤ S ∧ (∀ b o, p1 = some ⟨b, o, none⟩ → b < S) ∧ S ≤ x2.heap.size)) := ⟨⟨_, ho, (Array.getElem?_eq_some_iff.1 HA1.out.2.1).1, fun b o e => (HP1.out.lt b (by rw [e]; rfl)).2, hb.size⟩⟩
        refine hK.out _ _ trivial (fun hHeld => ?_)
        clear hK K ho hb hf
        try simp only [Act.put, List.setIfInBounds_toArray, List.set_cons_zero, List.set_cons_succ, List.getElem_toArray, List.getElem_cons_zero, List.getElem_cons_succ]
        refine wpAnyH_take (i := 6) (v := ?_) rfl (by kernel_rfl) (by kernel_rfl) (by kernel_rfl) (fun _ _ _ h => h) (Or.inl ⟨by rfl, ?_⟩) (by assumption) ?_
        rotate_left
        · (intro w hSw; (try dsimp only at hSw); go_simp; try (with_reducible rfl))
        try simp only [Act.put, List.setIfInBounds_toArray, List.set_cons_zero, List.set_cons_succ, List.getElem_toArray, List.getElem_cons_zero, List.getElem_cons_succ]
        refine wpAnyH_ready (rs := [7]) (by kernel_rfl) (by simp) ?_
        refine AllReadyH.cons rfl (fun K hK => ?_) AllReadyH.nil
        obtain ⟨a0, a1, a2, a3, a4⟩ := HA2.out.arg
        have z0 := (HA2.out.soft 0).1
        go_simp
        obtain ⟨x3, hx3⟩ : ∃ x, Hid (x2.setCell ⟨B, 0, none⟩ (.slice p1 P.length c1) = x) := ⟨_, show _ = _ from rfl⟩
        rw [show x2.setCell ⟨B, 0, none⟩ (.slice p1 P.length c1) = x3 from hx3.out]
        obtain ⟨HA3⟩ : Nonempty (Hid (AX w x3 B _ _)) := ⟨by rw [← hx3.out]; exact HA2.out.set 0 (.slice p1 P.length c1)⟩
        obtain ⟨HP3⟩ : Nonempty (Hid (World.ownsRow x3 (B + 2) 3 1 (.slice p1 P.length c1) P.length (P.map intV))) := ⟨by rw [← hx3.out]; exact own_set HP2.out (by omega) _ _⟩
        obtain ⟨HT3⟩ : Nonempty (Hid (∃ S, World.ownsRow x3 S 3 1 (.slice p2 T.length c2) T.length (T.map intV) ∧ B + 2 ≤ S ∧ (∀ b o, p1 = some ⟨b, o, none⟩ → b < S) ∧ S ≤ x3.heap.size)) := ⟨by
          obtain ⟨S, s1, s2, s3, s4⟩ := HT2.out
          rw [← hx3.out]; exact ⟨S, own_set s1 (by omega) _ _, s2, s3, by simpa [World.setCell] using s4⟩⟩
        refine hK.out _ _ trivial (fun hHeld => ?_)
        clear hK K a0 a1 a2 a3 a4 z0
        try simp only [Act.put, List.setIfInBounds_toArray, List.set_cons_zero, List.set_cons_succ, List.getElem_toArray, List.getElem_cons_zero, List.getElem_cons_succ]
        refine wpAnyH_take (i := 8) (v := ?_) rfl (by kernel_rfl) (by kernel_rfl) (by kernel_rfl) (fun _ _ _ h => h) (Or.inl ⟨by rfl, ?_⟩) (by assumption) ?_
        rotate_left
        · (intro w hSw; (try dsimp only at hSw); go_simp; try (with_reducible rfl))
        try simp only [Act.put, List.setIfInBounds_toArray, List.set_cons_zero, List.set_cons_succ, List.getElem_toArray, List.getElem_cons_zero, List.getElem_cons_succ]
        refine wpAnyH_ready (rs := [9]) (by kernel_rfl) (by simp) ?_
        refine AllReadyH.cons rfl (fun K hK => ?_) AllReadyH.nil
        obtain ⟨a0, a1, a2, a3, a4⟩ := HA3.out.arg
        have z4 := (HA3.out.soft 4).1
        go_simp
        obtain ⟨x4, hx4⟩ : ∃ x, Hid (x3.setCell ⟨B, 4, none⟩ (.slice p2 T.length c2) = x) := ⟨_, show _ = _ from rfl⟩
        rw [show x3.setCell ⟨B, 4, none⟩ (.slice p2 T.length c2) = x4 from hx4.out]
        obtain ⟨HA4⟩ : Nonempty (Hid (AX w x4 B _ _)) := ⟨by rw [← hx4.out]; exact HA3.out.set 4 (.slice p2 T.length c2)⟩
        obtain ⟨HP4⟩ : Nonempty (Hid (World.ownsRow x4 (B + 2) 3 1 (.slice p1 P.length c1) P.length (P.map intV))) := ⟨by rw [← hx4.out]; exact own_set HP3.out (by omega) _ _⟩
        obtain ⟨HT4⟩ : Nonempty (Hid (∃ S, World.ownsRow x4 S 3 1 (.slice p2 T.length c2) T.length (T.map intV) ∧ B + 2 ≤ S ∧ (∀ b o, p1 = some ⟨b, o, none⟩ → b < S) ∧ S ≤ x4.heap.size)) := ⟨by
          obtain ⟨S, s1, s2, s3, s4⟩ := HT3.out
          rw [← hx4.out]; exact ⟨S, own_set s1 (by omega) _ _, s2, s3, by simpa [World.setCell] using s4⟩⟩
        refine hK.out _ _ trivial (fun hHeld => ?_)
        clear hK K a0 a1 a2 a3 a4 z4
        try simp only [Act.put, List.setIfInBounds_toArray, List.set_cons_zero, List.set_cons_succ, List.getElem_toArray, List.getElem_cons_zero, List.getElem_cons_succ]
        refine wpAnyH_done (by kernel_rfl) ?_ _
        refine NoPanic.normal ?_
        show K0 _ _
        obtain ⟨HF⟩ : Nonempty (Hid (AP x4 B ⟨P, f0, n, o, T⟩ ∧ x4.heap[B + 1]? = some (.cells #[.slice none 0 0, .int .i64 0, .int .i64 0, .int .i64 0, .slice none 0 0] 24 (0, 0)) ∧ Below B w x4)) := ⟨by
      obtain ⟨S, s1, s2, s3, s4⟩ := HT4.out
      have hh := HA4.out
      simp only [List.setIfInBounds_toArray, List.set_cons_zero, List.set_cons_succ] at hh
      exact ⟨⟨p1, c1, p2, c2, S, hh.1, HP4.out, s1, s2, s3, s4⟩, hh.2⟩⟩
        refine hK0 _ _ (Met.intro (hJ0 _ _ ?_))
        (repeat apply Exists.intro)
        exact ⟨⟨x4, HF, rfl⟩, rfl⟩
      · skip
        obtain ⟨a0, a1, a2, a3, a4⟩ := HA0.out.arg
        go_simp
        refine hK.out _ _ trivial (fun hHeld => ?_)
        clear hK K a0 a1 a2 a3 a4
        try simp only [Act.put, List.setIfInBounds_toArray, List.set_cons_zero, List.set_cons_succ, List.getElem_toArray, List.getElem_cons_zero, List.getElem_cons_succ]
        refine wpAnyH_ready (rs := [2]) (by kernel_rfl) (by simp) ?_
        refine AllReadyH.cons rfl (fun K hK => ?_) AllReadyH.nil
        go_simp
        refine (HCP.out _ HA0.out.2.2).mono ?_
        rintro r x1 ⟨⟨v, rfl, ho⟩, hb⟩
        obtain ⟨p1, c1, rfl, -, -, hf⟩ := own_kind' ho
        obtain ⟨HA1⟩ : Nonempty (Hid (AX w x1 B _ _)) := ⟨HA0.out.on hb⟩
        obtain ⟨HP1⟩ : Nonempty (Hid (World.ownsRow x1 (B + 2) 3 1 (.slice p1 P.length c1) P.length (P.map intV))) := ⟨⟨ho.1, ho.2.imp id fun ⟨g, cap, cur, h1, h2, h3⟩ => ⟨g, cap, cur, h1, Nat.le_trans (Array.getElem?_eq_some_iff.1 HA0.out.2.1).1 h2, h3⟩⟩⟩
        refine hK.out _ _ trivial (fun hHeld => ?_)
        clear hK K ho hb hf
        try simp only [Act.put, List.setIfInBounds_toArray, List.set_cons_zero, List.set_cons_succ, List.getElem_toArray, List.getElem_cons_zero, List.getElem_cons_succ]
        refine wpAnyH_ready (rs := [5]) (by kernel_rfl) (by simp) ?_
        refine AllReadyH.cons rfl (fun K hK => ?_) AllReadyH.nil
        go_simp
        refine (HCT.out _ HA1.out.2.2).mono ?_
        rintro r x2 ⟨⟨v, rfl, ho⟩, hb⟩
        obtain ⟨p2, c2, rfl, -, -, hf⟩ := own_kind' ho
        obtain ⟨HA2⟩ : Nonempty (Hid (AX w x2 B _ _)) := ⟨HA1.out.on hb⟩
        obtain ⟨HP2⟩ : Nonempty (Hid (World.ownsRow x2 (B + 2) 3 1 (.slice p1 P.length c1) P.length (P.map intV))) := ⟨aOwn_below HP1.out hb⟩
        obtain ⟨HT2⟩ : Nonempty (Hid (∃ S, World.ownsRow x2 S 3 1 (.slice p2 T.length c2) T.length (T.map intV) ∧ B + 2 ≤ S ∧ (∀ b o, p1 = some ⟨b, o, none⟩ → b < S) ∧ S ≤ x2.heap.size)) := ⟨⟨_, ho, (Array.getElem?_eq_some_iff.1 HA1.out.2.1).1, fun b o e => (HP1.out.lt b (by rw [e]; rfl)).2, hb.size⟩⟩
        refine hK.out _ _ trivial (fun hHeld => ?_)
        clear hK K ho hb hf
        try simp only [Act.put, List.setIfInBounds_toArray, List.set_cons_zero, List.set_cons_succ, List.getElem_toArray, List.getElem_cons_zero, List.getElem_cons_succ]
        refine wpAnyH_take (i := 6) (v := ?_) rfl (by kernel_rfl) (by kernel_rfl) (by kernel_rfl) (fun _ _ _ h => h) (Or.inl ⟨by rfl, ?_⟩) (by assumption) ?_
        rotate_left
        · (intro w hSw; (try dsimp only at hSw); go_simp; try (with_reducible rfl))
        try simp only [Act.put, List.setIfInBounds_toArray, List.set_cons_zero, List.set_cons_succ, List.getElem_toArray, List.getElem_cons_zero, List.getElem_cons_succ]
        refine wpAnyH_ready (rs := [7]) (by kernel_rfl) (by simp) ?_
        refine AllReadyH.cons rfl (fun K hK => ?_) AllReadyH.nil
        obtain ⟨a0, a1, a2, a3, a4⟩ := HA2.out.arg
        have z0 := (HA2.out.soft 0).1
        go_simp
        obtain ⟨x3, hx3⟩ : ∃ x, Hid (x2.setCell ⟨B, 0, none⟩ (.slice p1 P.length c1) = x) := ⟨_, show _ = _ from rfl⟩
        rw [show x2.setCell ⟨B, 0, none⟩ (.slice p1 P.length c1) = x3 from hx3.out]
        obtain ⟨HA3⟩ : Nonempty (Hid (AX w x3 B _ _)) := ⟨by rw [← hx3.out]; exact HA2.out.set 0 (.slice p1 P.length c1)⟩
        obtain ⟨HP3⟩ : Nonempty (Hid (World.ownsRow x3 (B + 2) 3 1 (.slice p1 P.length c1) P.length (P.map intV))) := ⟨by rw [← hx3.out]; exact own_set HP2.out (by omega) _ _⟩
        obtain ⟨HT3⟩ : Nonempty (Hid (∃ S, World.ownsRow x3 S 3 1 (.slice p2 T.length c2) T.length (T.map intV) ∧ B + 2 ≤ S ∧ (∀ b o, p1 = some ⟨b, o, none⟩ → b < S) ∧ S ≤ x3.heap.size)) := ⟨by
          obtain ⟨S, s1, s2, s3, s4⟩ := HT2.out
          rw [← hx3.out]; exact ⟨S, own_set s1 (by omega) _ _, s2, s3, by simpa [World.setCell] using s4⟩⟩
        refine hK.out _ _ trivial (fun hHeld => ?_)
        clear hK K a0 a1 a2 a3 a4 z0
        try simp only [Act.put, List.setIfInBounds_toArray, List.set_cons_zero, List.set_cons_succ, List.getElem_toArray, List.getElem_cons_zero, List.getElem_cons_succ]
        refine wpAnyH_take (i := 8) (v := ?_) rfl (by kernel_rfl) (by kernel_rfl) (by kernel_rfl) (fun _ _ _ h => h) (Or.inl ⟨by rfl, ?_⟩) (by assumption) ?_
        rotate_left
        · (intro w hSw; (try dsimp only at hSw); go_simp; try (with_reducible rfl))
        try simp only [Act.put, List.setIfInBounds_toArray, List.set_cons_zero, List.set_cons_succ, List.getElem_toArray, List.getElem_cons_zero, List.getElem_cons_succ]
        refine wpAnyH_ready (rs := [9]) (by kernel_rfl) (by simp) ?_
        refine AllReadyH.cons rfl (fun K hK => ?_) AllReadyH.nil
        obtain ⟨a0, a1, a2, a3, a4⟩ := HA3.out.arg
        have z4 := (HA3.out.soft 4).1
        go_simp
        obtain ⟨x4, hx4⟩ : ∃ x, Hid (x3.setCell ⟨B, 4, none⟩ (.slice p2 T.length c2) = x) := ⟨_, show _ = _ from rfl⟩
        rw [show x3.setCell ⟨B, 4, none⟩ (.slice p2 T.length c2) = x4 from hx4.out]
        obtain ⟨HA4⟩ : Nonempty (Hid (AX w x4 B _ _)) := ⟨by rw [← hx4.out]; exact HA3.out.set 4 (.slice p2 T.length c2)⟩
        obtain ⟨HP4⟩ : Nonempty (Hid (World.ownsRow x4 (B + 2) 3 1 (.slice p1 P.length c1) P.length (P.map intV))) := ⟨by rw [← hx4.out]; exact own_set HP3.out (by omega) _ _⟩
        obtain ⟨HT4⟩ : Nonempty (Hid (∃ S, World.ownsRow x4 S 3 1 (.slice p2 T.length c2) T.length (T.map intV) ∧ B + 2 ≤ S ∧ (∀ b o, p1 = some ⟨b, o, none⟩ → b < S) ∧ S ≤ x4.heap.size)) := ⟨by
          obtain ⟨S, s1, s2, s3, s4⟩ := HT3.out
          rw [← hx4.out]; exact ⟨S, own_set s1 (by omega) _ _, s2, s3, by simpa [World.setCell] using s4⟩⟩
        refine hK.out _ _ trivial (fun hHeld => ?_)
        clear hK K a0 a1 a2 a3 a4 z4
        try simp only [Act.put, List.setIfInBounds_toArray, List.set_cons_zero, List.set_cons_succ, List.getElem_toArray, List.getElem_cons_zero, List.getElem_cons_succ]
        refine wpAnyH_done (by kernel_rfl) ?_ _
        refine NoPanic.normal ?_
        show K0 _ _
        obtain ⟨HF⟩ : Nonempty (Hid (AP x4 B ⟨P, f0, n, o, T⟩ ∧ x4.heap[B + 1]? = some (.cells #[.slice none 0 0, .int .i64 0, .int .i64 0, .int .i64 0, .slice none 0 0] 24 (0, 0)) ∧ Below B w x4)) := ⟨by
      obtain ⟨S, s1, s2, s3, s4⟩ := HT4.out
      have hh := HA4.out
      simp only [List.setIfInBounds_toArray, List.set_cons_zero, List.set_cons_succ] at hh
      exact ⟨⟨p1, c1, p2, c2, S, hh.1, HP4.out, s1, s2, s3, s4⟩, hh.2⟩⟩
        refine hK0 _ _ (Met.intro (hJ0 _ _ ?_))
        (repeat apply Exists.intro)
        exact ⟨⟨x4, HF, rfl⟩, rfl⟩
    · skip
      obtain ⟨a0, a1, a2, a3, a4⟩ := HA0.out.arg
      go_simp
      refine hK.out _ _ trivial (fun hHeld => ?_)
      clear hK K a0 a1 a2 a3 a4
      try simp only [Act.put, List.setIfInBounds_toArray, List.set_cons_zero, List.set_cons_succ, List.getElem_toArray, List.getElem_cons_zero, List.getElem_cons_succ]
      refine wpAnyH_ready (rs := [1]) (by kernel_rfl) (by simp) ?_
      refine AllReadyH.cons rfl (fun K hK => ?_) AllReadyH.nil
      obtain ⟨a0, a1, a2, a3, a4⟩ := HA0.out.arg
      go_simp
      refine hK.out _ _ trivial (fun hHeld => ?_)
      clear hK K a0 a1 a2 a3 a4
      try simp only [Act.put, List.setIfInBounds_toArray, List.set_cons_zero, List.set_cons_succ, List.getElem_toArray, List.getElem_cons_zero, List.getElem_cons_succ]
      refine wpAnyH_ready (rs := [2]) (by kernel_rfl) (by simp) ?_
      refine AllReadyH.cons rfl (fun K hK => ?_) AllReadyH.nil
      go_simp
      refine (HCP.out _ HA0.out.2.2).mono ?_
      rintro r x1 ⟨⟨v, rfl, ho⟩, hb⟩
      obtain ⟨p1, c1, rfl, -, -, hf⟩ := own_kind' ho
      obtain ⟨HA1⟩ : Nonempty (Hid (AX w x1 B _ _)) := ⟨HA0.out.on hb⟩
      obtain ⟨HP1⟩ : Nonempty (Hid (World.ownsRow x1 (B + 2) 3 1 (.slice p1 P.length c1) P.length (P.map intV))) := ⟨⟨ho.1, ho.2.imp id fun ⟨g, cap, cur, h1, h2, h3⟩ => ⟨g, cap, cur, h1, Nat.le_trans (Array.getElem?_eq_some_iff.1 HA0.out.2.1).1 h2, h3⟩⟩⟩
      refine hK.out _ _ trivial (fun hHeld => ?_)
      clear hK K ho hb hf
      try simp only [Act.put, List.setIfInBounds_toArray, List.set_cons_zero, List.set_cons_succ, List.getElem_toArray, List.getElem_cons_zero, List.getElem_cons_succ]
      refine wpAnyH_ready (rs := [5]) (by kernel_rfl) (by simp) ?_
      refine AllReadyH.cons rfl (fun K hK => ?_) AllReadyH.nil
      go_simp
      refine (HCT.out _ HA1.out.2.2).mono ?_
      rintro r x2 ⟨⟨v, rfl, ho⟩, hb⟩
      obtain ⟨p2, c2, rfl, -, -, hf⟩ := own_kind' ho
      obtain ⟨HA2⟩ : Nonempty (Hid (AX w x2 B _ _)) := ⟨HA1.out.on hb⟩
      obtain ⟨HP2⟩ : Nonempty (Hid (World.ownsRow x2 (B + 2) 3 1 (.slice p1 P.length c1) P.length (P.map intV))) := ⟨aOwn_below HP1.out hb⟩
      obtain ⟨HT2⟩ : Nonempty (Hid (∃ S, World.ownsRow x2 S 3 1 (.slice p2 T.length c2) T.length (T.map intV) ∧ B + 2 ≤ S ∧ (∀ b o, p1 = some ⟨b, o, none⟩ → b < S) ∧ S ≤ x2.heap.size)) := ⟨⟨_, ho, (Array.getElem?_eq_some_iff.1 HA1.out.2.1).1, fun b o e => (HP1.out.lt b (by rw [e]; rfl)).2, hb.size⟩⟩
      refine hK.out _ _ trivial (fun hHeld => ?_)
      clear hK K ho hb hf
      try simp only [Act.put, List.setIfInBounds_toArray, List.set_cons_zero, List.set_cons_succ, List.getElem_toArray, List.getElem_cons_zero, List.getElem_cons_succ]
      refine wpAnyH_take (i := 6) (v := ?_) rfl (by kernel_rfl) (by kernel_rfl) (by kernel_rfl) (fun _ _ _ h => h) (Or.inl ⟨by rfl, ?_⟩) (by assumption) ?_
      rotate_left
      · (intro w hSw; (try dsimp only at hSw); go_simp; try (with_reducible rfl))
      try simp only [Act.put, List.setIfInBounds_toArray, List.set_cons_zero, List.set_cons_succ, List.getElem_toArray, List.getElem_cons_zero, List.getElem_cons_succ]
      refine wpAnyH_ready (rs := [7]) (by kernel_rfl) (by simp) ?_
      refine AllReadyH.cons rfl (fun K hK => ?_) AllReadyH.nil
      obtain ⟨a0, a1, a2, a3, a4⟩ := HA2.out.arg
      have z0 := (HA2.out.soft 0).1
      go_simp
      obtain ⟨x3, hx3⟩ : ∃ x, Hid (x2.setCell ⟨B, 0, none⟩ (.slice p1 P.length c1) = x) := ⟨_, show _ = _ from rfl⟩
      rw [show x2.setCell ⟨B, 0, none⟩ (.slice p1 P.length c1) = x3 from hx3.out]
      obtain ⟨HA3⟩ : Nonempty (Hid (AX w x3 B _ _)) := ⟨by rw [← hx3.out]; exact HA2.out.set 0 (.slice p1 P.length c1)⟩
      obtain ⟨HP3⟩ : Nonempty (Hid (World.ownsRow x3 (B + 2) 3 1 (.slice p1 P.length c1) P.length (P.map intV))) := ⟨by rw [← hx3.out]; exact own_set HP2.out (by omega) _ _⟩
      obtain ⟨HT3⟩ : Nonempty (Hid (∃ S, World.ownsRow x3 S 3 1 (.slice p2 T.length c2) T.length (T.map intV) ∧ B + 2 ≤ S ∧ (∀ b o, p1 = some ⟨b, o, none⟩ → b < S) ∧ S ≤ x3.heap.size)) := ⟨by
          obtain ⟨S, s1, s2, s3, s4⟩ := HT2.out
          rw [← hx3.out]; exact ⟨S, own_set s1 (by omega) _ _, s2, s3, by simpa [World.setCell] using s4⟩⟩
      refine hK.out _ _ trivial (fun hHeld => ?_)
      clear hK K a0 a1 a2 a3 a4 z0
      try simp only [Act.put, List.setIfInBounds_toArray, List.set_cons_zero, List.set_cons_succ, List.getElem_toArray, List.getElem_cons_zero, List.getElem_cons_succ]
      refine wpAnyH_take (i := 8) (v := ?_) rfl (by kernel_rfl) (by kernel_rfl) (by kernel_rfl) (fun _ _ _ h => h) (Or.inl ⟨by rfl, ?_⟩) (by assumption) ?_
      rotate_left
      · (intro w hSw; (try dsimp only at hSw); go_simp; try (with_reducible rfl))
      try simp only [Act.put, List.setIfInBounds_toArray, List.set_cons_zero, List.set_cons_succ, List.getElem_toArray, List.getElem_cons_zero, List.getElem_cons_succ]
      refine wpAnyH_ready (rs := [9]) (by kernel_rfl) (by simp) ?_
      refine AllReadyH.cons rfl (fun K hK => ?_) AllReadyH.nil
      obtain ⟨a0, a1, a2, a3, a4⟩ := HA3.out.arg
      have z4 := (HA3.out.soft 4).1
      go_simp
      obtain ⟨x4, hx4⟩ : ∃ x, Hid (x3.setCell ⟨B, 4, none⟩ (.slice p2 T.length c2) = x) := ⟨_, show _ = _ from rfl⟩
      rw [show x3.setCell ⟨B, 4, none⟩ (.slice p2 T.length c2) = x4 from hx4.out]
      obtain ⟨HA4⟩ : Nonempty (Hid (AX w x4 B _ _)) := ⟨by rw [← hx4.out]; exact HA3.out.set 4 (.slice p2 T.length c2)⟩
      obtain ⟨HP4⟩ : Nonempty (Hid (World.ownsRow x4 (B + 2) 3 1 (.slice p1 P.length c1) P.length (P.map intV))) := ⟨by rw [← hx4.out]; exact own_set HP3.out (by omega) _ _⟩
      obtain ⟨HT4⟩ : Nonempty (Hid (∃ S, World.ownsRow x4 S 3 1 (.slice p2 T.length c2) T.length (T.map intV) ∧ B + 2 ≤ S ∧ (∀ b o, p1 = some ⟨b, o, none⟩ → b < S) ∧ S ≤ x4.heap.size)) := ⟨by
          obtain ⟨S, s1, s2, s3, s4⟩ := HT3.out
          rw [← hx4.out]; exact ⟨S, own_set s1 (by omega) _ _, s2, s3, by simpa [World.setCell] using s4⟩⟩
      refine hK.out _ _ trivial (fun hHeld => ?_)
      clear hK K a0 a1 a2 a3 a4 z4
      try simp only [Act.put, List.setIfInBounds_toArray, List.set_cons_zero, List.set_cons_succ, List.getElem_toArray, List.getElem_cons_zero, List.getElem_cons_succ]
      refine wpAnyH_done (by kernel_rfl) ?_ _
      refine NoPanic.normal ?_
      show K0 _ _
      obtain ⟨HF⟩ : Nonempty (Hid (AP x4 B ⟨P, f0, n, o, T⟩ ∧ x4.heap[B + 1]? = some (.cells #[.slice none 0 0, .int .i64 0, .int .i64 0, .int .i64 0, .slice none 0 0] 24 (0, 0)) ∧ Below B w x4)) := ⟨by
      obtain ⟨S, s1, s2, s3, s4⟩ := HT4.out
      have hh := HA4.out
      simp only [List.setIfInBounds_toArray, List.set_cons_zero, List.set_cons_succ] at hh
      exact ⟨⟨p1, c1, p2, c2, S, hh.1, HP4.out, s1, s2, s3, s4⟩, hh.2⟩⟩
      refine hK0 _ _ (Met.intro (hJ0 _ _ ?_))
      (repeat apply Exists.intro)
      exact ⟨⟨x4, HF, rfl⟩, rfl⟩
  case rest =>
    obtain ⟨wx, HW, hX⟩ := hcut
    subst hX
    obtain ⟨HQC⟩ : Nonempty (Hid (Calls _ _ _ _ _)) := ⟨HQ.out.says wx HW.out.2.2 HW.out.1⟩
    cases c with
    | zero =>
      simp only [ev] at HQC
      go_wp2_with fail
      refine HQC.out.mono ?_
      rintro e w2 ⟨rfl, hb2, hh, har⟩
      obtain ⟨p1, c1, q1, d1, hh1, i1, i2, k1, k2, n1, n2⟩ := har (by first | rfl | trivial)
      have hx : AX w w2 B #[.slice p1 A'.path.length c1, .int .i64 A'.pref, .int .i64 A'.med, .int .i64 A'.org, .slice q1 A'.tags.length d1] #[.slice none 0 0, .int .i64 0, .int .i64 0, .int .i64 0, .slice none 0 0] := ⟨hh1, by rw [hh]; exact HW.out.2.1, HW.out.2.2.trans hb2⟩
      obtain ⟨HX⟩ : Nonempty (Hid (AX w w2 B _ _ ∧ Ints w2 p1 A'.path ∧ Ints w2 q1 A'.tags ∧ Kind1 p1 A'.path.length c1 ∧ Kind1 q1 A'.tags.length d1 ∧ (∀ b o, p1 = some ⟨b, o, none⟩ → B + 1 < b) ∧ (∀ b o, q1 = some ⟨b, o, none⟩ → B + 1 < b))) := ⟨⟨hx, i1, i2, k1, k2, n1, n2⟩⟩
      obtain ⟨a0, a1, a2, a3, a4⟩ := hx.arg
      obtain ⟨r0, r1, r2, r3, r4⟩ := hx.res
      have y0 := (hx.soft 0).2
      have y1 := (hx.soft 1).2
      have y2 := (hx.soft 2).2
      have y3 := (hx.soft 3).2
      have y4 := (hx.soft 4).2
      clear hb2 hh har hh1 i1 i2 k1 k2 n1 n2 hx HQC
      go_wp2_with fail
      obtain ⟨hx, i1, i2, k1, k2, n1, n2⟩ := HX.out
      refine bodyPost_ret (v := .tuple #[.agg #[.slice p1 A'.path.length c1, .int .i64 A'.pref, .int .i64 A'.med, .int .i64 A'.org, .slice q1 A'.tags.length d1], .nilIface]) (by simp [results, Tryz.results36, go_sem, r0, r1, r2, r3, r4]) rfl ⟨⟨_, rfl, p1, c1, q1, d1, rfl, ?_, ?_, k1, k2, fun b o e => by have := n1 b o e; rw [show w.heap.size = B from hB.out]; omega, fun b o e => by have := n2 b o e; rw [show w.heap.size = B from hB.out]; omega⟩, ?_⟩
      · exact ((((i1.set n1 _ _).set n1 _ _).set n1 _ _).set n1 _ _).set n1 _ _
      · exact ((((i2.set n2 _ _).set n2 _ _).set n2 _ _).set n2 _ _).set n2 _ _
      · rw [show w.heap.size = B from hB.out]
        exact ((((hx.2.2.setCell (p := ⟨B + 1, 0, none⟩) (Nat.le_succ B) _).setCell (p := ⟨B + 1, 1, none⟩) (Nat.le_succ B) _).setCell (p := ⟨B + 1, 2, none⟩) (Nat.le_succ B) _).setCell (p := ⟨B + 1, 3, none⟩) (Nat.le_succ B) _).setCell (p := ⟨B + 1, 4, none⟩) (Nat.le_succ B) _
    | succ c =>
      obtain ⟨u, hu⟩ : ∃ u, Hid (E c = u) := ⟨_, show _ = _ from rfl⟩
      simp only [ev] at HQC
      rw [show E c = u from hu.out] at HQC
      go_wp2_with fail
      refine HQC.out.mono ?_
      rintro e w2 ⟨rfl, hb2, hh, -⟩
      have hn : w2.heap[B + 1]? = some (.cells #[.slice none 0 0, .int .i64 0, .int .i64 0, .int .i64 0, .slice none 0 0] 24 (0, 0)) := by rw [hh]; exact HW.out.2.1
      obtain ⟨HX⟩ : Nonempty (Hid (Below B w w2)) := ⟨HW.out.2.2.trans hb2⟩
      have r0 : w2.cell? ⟨B + 1, 0, none⟩ = some (.slice none 0 0) := by simp [World.cell?, hn]
      have r1 : w2.cell? ⟨B + 1, 1, none⟩ = some (.int .i64 0) := by simp [World.cell?, hn]
      have r2 : w2.cell? ⟨B + 1, 2, none⟩ = some (.int .i64 0) := by simp [World.cell?, hn]
      have r3 : w2.cell? ⟨B + 1, 3, none⟩ = some (.int .i64 0) := by simp [World.cell?, hn]
      have r4 : w2.cell? ⟨B + 1, 4, none⟩ = some (.slice none 0 0) := by simp [World.cell?, hn]
      have y0 : w2.frozen? ⟨B + 1, 0, none⟩ = false := by simp [World.frozen?, hn]
      have y1 : w2.frozen? ⟨B + 1, 1, none⟩ = false := by simp [World.frozen?, hn]
      have y2 : w2.frozen? ⟨B + 1, 2, none⟩ = false := by simp [World.frozen?, hn]
      have y3 : w2.frozen? ⟨B + 1, 3, none⟩ = false := by simp [World.frozen?, hn]
      have y4 : w2.frozen? ⟨B + 1, 4, none⟩ = false := by simp [World.frozen?, hn]
      clear hb2 hh hn HQC
      go_wp2_with fail
      refine bodyPost_ret (v := .tuple #[.agg #[.slice none 0 0, .int .i64 0, .int .i64 0, .int .i64 0, .slice none 0 0], .iface 171 (.pointer (some u))]) (by simp [results, Tryz.results36, go_sem, r0, r1, r2, r3, r4]) rfl ⟨⟨_, by simp only [ev]; rw [hu.out], attrG_none _ _⟩, ?_⟩
      rw [show w.heap.size = B from hB.out]
      exact ((((HX.out.setCell (p := ⟨B + 1, 0, none⟩) (Nat.le_succ B) _).setCell (p := ⟨B + 1, 1, none⟩) (Nat.le_succ B) _).setCell (p := ⟨B + 1, 2, none⟩) (Nat.le_succ B) _).setCell (p := ⟨B + 1, 3, none⟩) (Nat.le_succ B) _).setCell (p := ⟨B + 1, 4, none⟩) (Nat.le_succ B) _
end Go.Proofs.YtkebcfjofeoehaaGreatDoor
