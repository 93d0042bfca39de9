/-
  herepathlaw1.AttrTells returns true, whatever is told, whatever text, whatever numbers.
-/
import Derived.Test.YtbfdgflbflajdaaGreatDoorAttrTells0
namespace Go.Proofs.YtbfdgflbflajdaaGreatDoor
open Go.RowKit
open scoped Classical

set_option linter.unusedSimpArgs false in
set_option linter.unusedVariables false in
set_option maxRecDepth 100000 in
set_option maxHeartbeats 8000000 in
theorem attrTells_any (v v' : Value) (A C : At) (s : ByteArray) (x n : Int) (E : Nat → Addr) (m : Int) (w : World) (hE : AttrEnv w E m) (hL : ErrsLaid w E) (h : AttrK w v A) (h' : AttrK w v' C) :
    Calls Tryz.prog 4 #[v, v', .string s, .int .i64 x, .int .i64 n] w fun r w' => r = .returned (.bool true) ∧ Below w.heap.size w w' := by
  have hk := h
  have hk' := h'
  obtain ⟨p, cp, q, cq, rfl, -, -, -, -⟩ := h
  obtain ⟨p', cp', q', cq', rfl, -, -, -, -⟩ := h'
  obtain ⟨N, hN⟩ : ∃ N, Hid (w.heap.size = N) := ⟨_, show _ = _ from rfl⟩
  obtain ⟨HS0⟩ : Nonempty (Hid (TS w ((w.alloc (.cells #[.slice p A.path.length cp, .int .i64 A.pref, .int .i64 A.med, .int .i64 A.org, .slice q A.tags.length cq] 24)).alloc (.cells #[.slice p' C.path.length cp', .int .i64 C.pref, .int .i64 C.med, .int .i64 C.org, .slice q' C.tags.length cq'] 24)) N E m A C p cp q cq p' cp' q' cq')) := ⟨by rw [← hN.out]; exact ts_start hE hL hk hk'⟩
  clear hE hL hk hk'
  go_enter Tryz.func4, Tryz.ntmps4
  go_wp2_with fail
  refine (told_any E m _ HS0.out.env).mono ?_
  rintro e w1 ⟨rfl, hb1⟩
  rw [show w.heap.size = N from hN.out]
  obtain ⟨HS1⟩ : Nonempty (Hid (TS w w1 N E m A C p cp q cq p' cp' q' cq')) := ⟨HS0.out.on hb1⟩
  clear hb1 HS0
  obtain ⟨la, hla⟩ : ∃ l : Int, Hid ((if longA A then 1 else 0) = l) := ⟨_, show _ = _ from rfl⟩
  obtain ⟨lc, hlc⟩ : ∃ l : Int, Hid ((if longA C then 1 else 0) = l) := ⟨_, show _ = _ from rfl⟩
  obtain ⟨HLA⟩ : Nonempty (Hid (∀ W, TS w W N E m A C p cp q cq p' cp' q' cq' → Calls Tryz.prog 7 #[.agg #[.slice p A.path.length cp, .int .i64 A.pref, .int .i64 A.med, .int .i64 A.org, .slice q A.tags.length cq]] W fun r w' => r = .returned (.int .i64 la) ∧ Below W.heap.size W w')) := ⟨fun W h => by rw [← hla.out]; exact rLongAttr_any _ A W h.ka.attrK.attr⟩
  obtain ⟨HLC⟩ : Nonempty (Hid (∀ W, TS w W N E m A C p cp q cq p' cp' q' cq' → Calls Tryz.prog 7 #[.agg #[.slice p' C.path.length cp', .int .i64 C.pref, .int .i64 C.med, .int .i64 C.org, .slice q' C.tags.length cq']] W fun r w' => r = .returned (.int .i64 lc) ∧ Below W.heap.size W w')) := ⟨fun W h => by rw [← hlc.out]; exact rLongAttr_any _ C W h.kc.attr⟩
  obtain ⟨ls, hls⟩ : ∃ l, Hid (la + lc = l) := ⟨_, show _ = _ from rfl⟩
  have g1 : IntKind.i64.wrap (la + lc) = ls := by
    rw [← hls.out, ← hla.out, ← hlc.out]
    exact wrapi _ (by split <;> split <;> omega)
  obtain ⟨bb, hbb⟩ : ∃ b, Hid (decide (0 < ls) = b) := ⟨_, show _ = _ from rfl⟩
  have g2 : decide (0 < ls) = bb := hbb.out
  obtain ⟨bl, hbl⟩ : ∃ b, Hid (decide (150 < (s.size : Int)) = b) := ⟨_, show _ = _ from rfl⟩
  have g3 : decide (150 < (s.size : Int)) = bl := hbl.out
  obtain ⟨HBB⟩ : Nonempty (Hid (bb = false → longA A = false ∧ longA C = false)) := ⟨fun h => by
    rw [h] at g2
    rw [decide_eq_false_iff_not, ← hls.out, ← hla.out, ← hlc.out] at g2
    constructor
    · cases h1 : longA A with
      | false => rfl
      | true => exfalso; apply g2; rw [h1]; cases longA C <;> simp
    · cases h1 : longA C with
      | false => rfl
      | true => exfalso; apply g2; rw [h1]; cases longA A <;> simp⟩
  obtain ⟨HBL⟩ : Nonempty (Hid (bl = false → s.size ≤ 150)) := ⟨fun h => by
    rw [h, decide_eq_false_iff_not] at g3
    omega⟩
  clear hla hlc hls hbb hbl
  go_upto_region 2 with fail
  obtain ⟨HK2⟩ : Nonempty (Hid (∀ y, TS w y N E m A C p cp q cq p' cp' q' cq' → (fun w' => (w'.cell? ⟨N, 0, none⟩ = some (.slice p A.path.length cp) ∧ w'.cell? ⟨N, 1, none⟩ = some (.int .i64 A.pref) ∧ w'.cell? ⟨N, 2, none⟩ = some (.int .i64 A.med) ∧ w'.cell? ⟨N, 3, none⟩ = some (.int .i64 A.org) ∧ w'.cell? ⟨N, 4, none⟩ = some (.slice q A.tags.length cq)) ∧ (w'.cell? ⟨N + 1, 0, none⟩ = some (.slice p' C.path.length cp') ∧ w'.cell? ⟨N + 1, 1, none⟩ = some (.int .i64 C.pref) ∧ w'.cell? ⟨N + 1, 2, none⟩ = some (.int .i64 C.med) ∧ w'.cell? ⟨N + 1, 3, none⟩ = some (.int .i64 C.org) ∧ w'.cell? ⟨N + 1, 4, none⟩ = some (.slice q' C.tags.length cq'))) y)) := ⟨fun y h => ⟨h.ra.cells, h.rc.cells⟩⟩
  obtain ⟨HD1⟩ : Nonempty (Hid (TS w w1.drew N E m A C p cp q cq p' cp' q' cq')) := ⟨HS1.out.on (Below.refl _ _).drew⟩
  obtain ⟨bt, hbt⟩ : ∃ b, Hid ((bb || bl) = b) := ⟨_, show _ = _ from rfl⟩
  go_cut [36] from 21 (fun s w' => ∃ wx : World, s = .bool bt ∧ Hid (TS w wx N E m A C p cp q cq p' cp' q' cq') ∧ wx = w')
  case first J0 K0 hJ0 hK0 =>
    cases bb with
    | true =>
      refine wp_region_noPanic ?_
      refine wp_region_held_drew (S := (fun w' => (w'.cell? ⟨N, 0, none⟩ = some (.slice p A.path.length cp) ∧ w'.cell? ⟨N, 1, none⟩ = some (.int .i64 A.pref) ∧ w'.cell? ⟨N, 2, none⟩ = some (.int .i64 A.med) ∧ w'.cell? ⟨N, 3, none⟩ = some (.int .i64 A.org) ∧ w'.cell? ⟨N, 4, none⟩ = some (.slice q A.tags.length cq)) ∧ (w'.cell? ⟨N + 1, 0, none⟩ = some (.slice p' C.path.length cp') ∧ w'.cell? ⟨N + 1, 1, none⟩ = some (.int .i64 C.pref) ∧ w'.cell? ⟨N + 1, 2, none⟩ = some (.int .i64 C.med) ∧ w'.cell? ⟨N + 1, 3, none⟩ = some (.int .i64 C.org) ∧ w'.cell? ⟨N + 1, 4, none⟩ = some (.slice q' C.tags.length cq')))) (by kernel_rfl) ?_ (fun hHeld => ?_)
      · exact HK2.out _ HD1.out
      refine wpAnyH_take (i := 0) (v := ?_) rfl (by kernel_rfl) (by kernel_rfl) (by kernel_rfl) (fun _ _ _ h => h) (Or.inl ⟨by rfl, ?_⟩) (by assumption) ?_
      rotate_left
      · (intro w hSw; (try dsimp only at hSw); go_simp; try (with_reducible rfl))
      try simp only [Act.put, List.setIfInBounds_toArray, List.set_cons_zero, List.set_cons_succ, List.getElem_toArray, List.getElem_cons_zero, List.getElem_cons_succ]
      refine wpAnyH_take (i := 1) (v := ?_) rfl (by kernel_rfl) (by kernel_rfl) (by kernel_rfl) (fun _ _ _ h => h) (Or.inl ⟨by rfl, ?_⟩) (by assumption) ?_
      rotate_left
      · (intro w hSw; (try dsimp only at hSw); go_simp; try (with_reducible rfl))
      try simp only [Act.put, List.setIfInBounds_toArray, List.set_cons_zero, List.set_cons_succ, List.getElem_toArray, List.getElem_cons_zero, List.getElem_cons_succ]
      refine wpAnyH_take (i := 2) (v := ?_) rfl (by kernel_rfl) (by kernel_rfl) (by kernel_rfl) (fun _ _ _ h => h) (Or.inl ⟨by rfl, ?_⟩) (by assumption) ?_
      rotate_left
      · (intro w hSw; (try dsimp only at hSw); go_simp; try (with_reducible rfl))
      try simp only [Act.put, List.setIfInBounds_toArray, List.set_cons_zero, List.set_cons_succ, List.getElem_toArray, List.getElem_cons_zero, List.getElem_cons_succ]
      refine wpAnyH_take (i := 3) (v := ?_) rfl (by kernel_rfl) (by kernel_rfl) (by kernel_rfl) (fun _ _ _ h => h) (Or.inl ⟨by rfl, ?_⟩) (by assumption) ?_
      rotate_left
      · (intro w hSw; (try dsimp only at hSw); go_simp; try (with_reducible rfl))
      try simp only [Act.put, List.setIfInBounds_toArray, List.set_cons_zero, List.set_cons_succ, List.getElem_toArray, List.getElem_cons_zero, List.getElem_cons_succ]
      refine wpAnyH_take (i := 5) (v := ?_) rfl (by kernel_rfl) (by kernel_rfl) (by kernel_rfl) (fun _ _ _ h => h) (Or.inl ⟨by rfl, ?_⟩) (by assumption) ?_
      rotate_left
      · (intro w hSw; (try dsimp only at hSw); go_simp; try (with_reducible rfl))
      try simp only [Act.put, List.setIfInBounds_toArray, List.set_cons_zero, List.set_cons_succ, List.getElem_toArray, List.getElem_cons_zero, List.getElem_cons_succ]
      refine wpAnyH_ready (rs := [4]) (by kernel_rfl) (by simp) ?_
      refine AllReadyH.cons rfl (fun K hK => ?_) AllReadyH.nil
      go_simp
      refine (HLA.out _ HD1.out).mono ?_
      rintro r y2 ⟨rfl, hb⟩
      obtain ⟨HD2⟩ : Nonempty (Hid (TS w y2 N E m A C p cp q cq p' cp' q' cq')) := ⟨HD1.out.on hb⟩
      clear hb
      refine hK.out _ _ ?_ (fun hHeld => ?_)
      · exact HK2.out _ HD2.out
      clear hK K
      try simp only [Act.put, List.setIfInBounds_toArray, List.set_cons_zero, List.set_cons_succ, List.getElem_toArray, List.getElem_cons_zero, List.getElem_cons_succ]
      refine wpAnyH_ready (rs := [6]) (by kernel_rfl) (by simp) ?_
      refine AllReadyH.cons rfl (fun K hK => ?_) AllReadyH.nil
      go_simp
      refine (HLC.out _ HD2.out).mono ?_
      rintro r y3 ⟨rfl, hb⟩
      obtain ⟨HD3⟩ : Nonempty (Hid (TS w y3 N E m A C p cp q cq p' cp' q' cq')) := ⟨HD2.out.on hb⟩
      clear hb
      refine hK.out _ _ ?_ (fun hHeld => ?_)
      · exact HK2.out _ HD3.out
      clear hK K
      try simp only [Act.put, List.setIfInBounds_toArray, List.set_cons_zero, List.set_cons_succ, List.getElem_toArray, List.getElem_cons_zero, List.getElem_cons_succ]
      refine wpAnyH_take (i := 7) (v := ?_) rfl (by kernel_rfl) (by kernel_rfl) (by kernel_rfl) (fun _ _ _ h => h) (Or.inl ⟨by rfl, ?_⟩) (by assumption) ?_
      rotate_left
      · (intro w hSw; (try dsimp only at hSw); go_simp; try (with_reducible rfl))
      try simp only [Act.put, List.setIfInBounds_toArray, List.set_cons_zero, List.set_cons_succ, List.getElem_toArray, List.getElem_cons_zero, List.getElem_cons_succ]
      refine wpAnyH_take (i := 8) (v := ?_) rfl (by kernel_rfl) (by kernel_rfl) (by kernel_rfl) (fun _ _ _ h => h) (Or.inl ⟨by rfl, ?_⟩) (by assumption) ?_
      rotate_left
      · (intro w hSw; (try dsimp only at hSw); go_simp; try (with_reducible rfl))
      try simp only [Act.put, List.setIfInBounds_toArray, List.set_cons_zero, List.set_cons_succ, List.getElem_toArray, List.getElem_cons_zero, List.getElem_cons_succ]
      refine wpAnyH_take (i := 9) (v := ?_) rfl (by kernel_rfl) (by kernel_rfl) (by kernel_rfl) (fun _ _ _ h => h) (Or.inl ⟨by rfl, ?_⟩) (by assumption) ?_
      rotate_left
      · (intro w hSw; (try dsimp only at hSw); go_simp; try (with_reducible rfl))
      try simp only [Act.put, List.setIfInBounds_toArray, List.set_cons_zero, List.set_cons_succ, List.getElem_toArray, List.getElem_cons_zero, List.getElem_cons_succ]
      refine wpAnyH_take (i := 10) (v := ?_) rfl (by kernel_rfl) (by kernel_rfl) (by kernel_rfl) (fun _ _ _ h => h) (Or.inl ⟨by rfl, ?_⟩) (by assumption) ?_
      rotate_left
      · (intro w hSw; (try dsimp only at hSw); go_simp; try (with_reducible rfl))
      try simp only [Act.put, List.setIfInBounds_toArray, List.set_cons_zero, List.set_cons_succ, List.getElem_toArray, List.getElem_cons_zero, List.getElem_cons_succ]
      refine wpAnyH_take (i := 11) (v := undef) rfl (by kernel_rfl) (by kernel_rfl) (by kernel_rfl) (fun _ _ _ h => h) (Or.inr ⟨by rfl, rfl⟩) (by assumption) ?_
      try simp only [Act.put, List.setIfInBounds_toArray, List.set_cons_zero, List.set_cons_succ, List.getElem_toArray, List.getElem_cons_zero, List.getElem_cons_succ]
      refine wpAnyH_take (i := 12) (v := undef) rfl (by kernel_rfl) (by kernel_rfl) (by kernel_rfl) (fun _ _ _ h => h) (Or.inr ⟨by rfl, rfl⟩) (by assumption) ?_
      try simp only [Act.put, List.setIfInBounds_toArray, List.set_cons_zero, List.set_cons_succ, List.getElem_toArray, List.getElem_cons_zero, List.getElem_cons_succ]
      refine wpAnyH_take (i := 13) (v := undef) rfl (by kernel_rfl) (by kernel_rfl) (by kernel_rfl) (fun _ _ _ h => h) (Or.inr ⟨by rfl, rfl⟩) (by assumption) ?_
      try simp only [Act.put, List.setIfInBounds_toArray, List.set_cons_zero, List.set_cons_succ, List.getElem_toArray, List.getElem_cons_zero, List.getElem_cons_succ]
      refine wpAnyH_take (i := 14) (v := ?_) rfl (by kernel_rfl) (by kernel_rfl) (by kernel_rfl) (fun _ _ _ h => h) (Or.inl ⟨by rfl, ?_⟩) (by assumption) ?_
      rotate_left
      · (intro w hSw; (try dsimp only at hSw); go_simp; try (with_reducible rfl))
      try simp only [Act.put, List.setIfInBounds_toArray, List.set_cons_zero, List.set_cons_succ, List.getElem_toArray, List.getElem_cons_zero, List.getElem_cons_succ]
      refine wpAnyH_done (by kernel_rfl) ?_ _
      refine NoPanic.normal ?_
      clear hHeld
      first
        | (go_meet; exact ⟨y3, by rw [← hbt.out]; rfl, HD3, rfl⟩)
        | (show K0 _ _; refine hK0 _ _ (Met.intro (hJ0 _ _ ?_)); (repeat apply Exists.intro); exact ⟨⟨y3, by rw [← hbt.out]; rfl, HD3, rfl⟩, rfl⟩)
    | false =>
      refine wp_region_noPanic ?_
      refine wp_region_held_drew (S := (fun w' => (w'.cell? ⟨N, 0, none⟩ = some (.slice p A.path.length cp) ∧ w'.cell? ⟨N, 1, none⟩ = some (.int .i64 A.pref) ∧ w'.cell? ⟨N, 2, none⟩ = some (.int .i64 A.med) ∧ w'.cell? ⟨N, 3, none⟩ = some (.int .i64 A.org) ∧ w'.cell? ⟨N, 4, none⟩ = some (.slice q A.tags.length cq)) ∧ (w'.cell? ⟨N + 1, 0, none⟩ = some (.slice p' C.path.length cp') ∧ w'.cell? ⟨N + 1, 1, none⟩ = some (.int .i64 C.pref) ∧ w'.cell? ⟨N + 1, 2, none⟩ = some (.int .i64 C.med) ∧ w'.cell? ⟨N + 1, 3, none⟩ = some (.int .i64 C.org) ∧ w'.cell? ⟨N + 1, 4, none⟩ = some (.slice q' C.tags.length cq')))) (by kernel_rfl) ?_ (fun hHeld => ?_)
      · exact HK2.out _ HD1.out
      refine wpAnyH_take (i := 0) (v := ?_) rfl (by kernel_rfl) (by kernel_rfl) (by kernel_rfl) (fun _ _ _ h => h) (Or.inl ⟨by rfl, ?_⟩) (by assumption) ?_
      rotate_left
      · (intro w hSw; (try dsimp only at hSw); go_simp; try (with_reducible rfl))
      try simp only [Act.put, List.setIfInBounds_toArray, List.set_cons_zero, List.set_cons_succ, List.getElem_toArray, List.getElem_cons_zero, List.getElem_cons_succ]
      refine wpAnyH_take (i := 1) (v := ?_) rfl (by kernel_rfl) (by kernel_rfl) (by kernel_rfl) (fun _ _ _ h => h) (Or.inl ⟨by rfl, ?_⟩) (by assumption) ?_
      rotate_left
      · (intro w hSw; (try dsimp only at hSw); go_simp; try (with_reducible rfl))
      try simp only [Act.put, List.setIfInBounds_toArray, List.set_cons_zero, List.set_cons_succ, List.getElem_toArray, List.getElem_cons_zero, List.getElem_cons_succ]
      refine wpAnyH_take (i := 2) (v := ?_) rfl (by kernel_rfl) (by kernel_rfl) (by kernel_rfl) (fun _ _ _ h => h) (Or.inl ⟨by rfl, ?_⟩) (by assumption) ?_
      rotate_left
      · (intro w hSw; (try dsimp only at hSw); go_simp; try (with_reducible rfl))
      try simp only [Act.put, List.setIfInBounds_toArray, List.set_cons_zero, List.set_cons_succ, List.getElem_toArray, List.getElem_cons_zero, List.getElem_cons_succ]
      refine wpAnyH_take (i := 3) (v := ?_) rfl (by kernel_rfl) (by kernel_rfl) (by kernel_rfl) (fun _ _ _ h => h) (Or.inl ⟨by rfl, ?_⟩) (by assumption) ?_
      rotate_left
      · (intro w hSw; (try dsimp only at hSw); go_simp; try (with_reducible rfl))
      try simp only [Act.put, List.setIfInBounds_toArray, List.set_cons_zero, List.set_cons_succ, List.getElem_toArray, List.getElem_cons_zero, List.getElem_cons_succ]
      refine wpAnyH_take (i := 5) (v := ?_) rfl (by kernel_rfl) (by kernel_rfl) (by kernel_rfl) (fun _ _ _ h => h) (Or.inl ⟨by rfl, ?_⟩) (by assumption) ?_
      rotate_left
      · (intro w hSw; (try dsimp only at hSw); go_simp; try (with_reducible rfl))
      try simp only [Act.put, List.setIfInBounds_toArray, List.set_cons_zero, List.set_cons_succ, List.getElem_toArray, List.getElem_cons_zero, List.getElem_cons_succ]
      refine wpAnyH_ready (rs := [4]) (by kernel_rfl) (by simp) ?_
      refine AllReadyH.cons rfl (fun K hK => ?_) AllReadyH.nil
      go_simp
      refine (HLA.out _ HD1.out).mono ?_
      rintro r y2 ⟨rfl, hb⟩
      obtain ⟨HD2⟩ : Nonempty (Hid (TS w y2 N E m A C p cp q cq p' cp' q' cq')) := ⟨HD1.out.on hb⟩
      clear hb
      refine hK.out _ _ ?_ (fun hHeld => ?_)
      · exact HK2.out _ HD2.out
      clear hK K
      try simp only [Act.put, List.setIfInBounds_toArray, List.set_cons_zero, List.set_cons_succ, List.getElem_toArray, List.getElem_cons_zero, List.getElem_cons_succ]
      refine wpAnyH_ready (rs := [6]) (by kernel_rfl) (by simp) ?_
      refine AllReadyH.cons rfl (fun K hK => ?_) AllReadyH.nil
      go_simp
      refine (HLC.out _ HD2.out).mono ?_
      rintro r y3 ⟨rfl, hb⟩
      obtain ⟨HD3⟩ : Nonempty (Hid (TS w y3 N E m A C p cp q cq p' cp' q' cq')) := ⟨HD2.out.on hb⟩
      clear hb
      refine hK.out _ _ ?_ (fun hHeld => ?_)
      · exact HK2.out _ HD3.out
      clear hK K
      try simp only [Act.put, List.setIfInBounds_toArray, List.set_cons_zero, List.set_cons_succ, List.getElem_toArray, List.getElem_cons_zero, List.getElem_cons_succ]
      refine wpAnyH_take (i := 7) (v := ?_) rfl (by kernel_rfl) (by kernel_rfl) (by kernel_rfl) (fun _ _ _ h => h) (Or.inl ⟨by rfl, ?_⟩) (by assumption) ?_
      rotate_left
      · (intro w hSw; (try dsimp only at hSw); go_simp; try (with_reducible rfl))
      try simp only [Act.put, List.setIfInBounds_toArray, List.set_cons_zero, List.set_cons_succ, List.getElem_toArray, List.getElem_cons_zero, List.getElem_cons_succ]
      refine wpAnyH_take (i := 8) (v := ?_) rfl (by kernel_rfl) (by kernel_rfl) (by kernel_rfl) (fun _ _ _ h => h) (Or.inl ⟨by rfl, ?_⟩) (by assumption) ?_
      rotate_left
      · (intro w hSw; (try dsimp only at hSw); go_simp; try (with_reducible rfl))
      try simp only [Act.put, List.setIfInBounds_toArray, List.set_cons_zero, List.set_cons_succ, List.getElem_toArray, List.getElem_cons_zero, List.getElem_cons_succ]
      refine wpAnyH_take (i := 9) (v := ?_) rfl (by kernel_rfl) (by kernel_rfl) (by kernel_rfl) (fun _ _ _ h => h) (Or.inl ⟨by rfl, ?_⟩) (by assumption) ?_
      rotate_left
      · (intro w hSw; (try dsimp only at hSw); go_simp; try (with_reducible rfl))
      try simp only [Act.put, List.setIfInBounds_toArray, List.set_cons_zero, List.set_cons_succ, List.getElem_toArray, List.getElem_cons_zero, List.getElem_cons_succ]
      refine wpAnyH_take (i := 10) (v := ?_) rfl (by kernel_rfl) (by kernel_rfl) (by kernel_rfl) (fun _ _ _ h => h) (Or.inl ⟨by rfl, ?_⟩) (by assumption) ?_
      rotate_left
      · (intro w hSw; (try dsimp only at hSw); go_simp; try (with_reducible rfl))
      try simp only [Act.put, List.setIfInBounds_toArray, List.set_cons_zero, List.set_cons_succ, List.getElem_toArray, List.getElem_cons_zero, List.getElem_cons_succ]
      refine wpAnyH_take (i := 11) (v := ?_) rfl (by kernel_rfl) (by kernel_rfl) (by kernel_rfl) (fun _ _ _ h => h) (Or.inl ⟨by rfl, ?_⟩) (by assumption) ?_
      rotate_left
      · (intro w hSw; (try dsimp only at hSw); go_simp; try (with_reducible rfl))
      try simp only [Act.put, List.setIfInBounds_toArray, List.set_cons_zero, List.set_cons_succ, List.getElem_toArray, List.getElem_cons_zero, List.getElem_cons_succ]
      refine wpAnyH_take (i := 12) (v := ?_) rfl (by kernel_rfl) (by kernel_rfl) (by kernel_rfl) (fun _ _ _ h => h) (Or.inl ⟨by rfl, ?_⟩) (by assumption) ?_
      rotate_left
      · (intro w hSw; (try dsimp only at hSw); go_simp; try (with_reducible rfl))
      try simp only [Act.put, List.setIfInBounds_toArray, List.set_cons_zero, List.set_cons_succ, List.getElem_toArray, List.getElem_cons_zero, List.getElem_cons_succ]
      refine wpAnyH_take (i := 13) (v := ?_) rfl (by kernel_rfl) (by kernel_rfl) (by kernel_rfl) (fun _ _ _ h => h) (Or.inl ⟨by rfl, ?_⟩) (by assumption) ?_
      rotate_left
      · (intro w hSw; (try dsimp only at hSw); go_simp; try (with_reducible rfl))
      try simp only [Act.put, List.setIfInBounds_toArray, List.set_cons_zero, List.set_cons_succ, List.getElem_toArray, List.getElem_cons_zero, List.getElem_cons_succ]
      refine wpAnyH_take (i := 14) (v := ?_) rfl (by kernel_rfl) (by kernel_rfl) (by kernel_rfl) (fun _ _ _ h => h) (Or.inl ⟨by rfl, ?_⟩) (by assumption) ?_
      rotate_left
      · (intro w hSw; (try dsimp only at hSw); go_simp; try (with_reducible rfl))
      try simp only [Act.put, List.setIfInBounds_toArray, List.set_cons_zero, List.set_cons_succ, List.getElem_toArray, List.getElem_cons_zero, List.getElem_cons_succ]
      refine wpAnyH_done (by kernel_rfl) ?_ _
      refine NoPanic.normal ?_
      clear hHeld
      first
        | (go_meet; exact ⟨y3, by rw [← hbt.out]; rfl, HD3, rfl⟩)
        | (show K0 _ _; refine hK0 _ _ (Met.intro (hJ0 _ _ ?_)); (repeat apply Exists.intro); exact ⟨⟨y3, by rw [← hbt.out]; rfl, HD3, rfl⟩, rfl⟩)
  case rest =>
    obtain ⟨wx, rfl, HS2, hX⟩ := hcut
    subst hX
    clear HLA HLC HK2 HD1 HS1 g1 g2 g3
    cases bt with
    | true =>
      go_wp2_with fail
      go_ret
      exact ⟨rfl, by rw [show w.heap.size = N from hN.out]; exact HS2.out.bel⟩
    | false =>
      obtain ⟨hbb, hbl⟩ : bb = false ∧ bl = false := by simpa using hbt.out
      subst hbb hbl
      clear hbt
      obtain ⟨hlA, hlC⟩ := HBB.out rfl
      have hsl := HBL.out rfl
      obtain ⟨HSM⟩ : Nonempty (Hid (Small A ∧ Small C)) := ⟨by
        simp [longA] at hlA hlC
        exact ⟨⟨by omega, by omega⟩, by omega, by omega⟩⟩
      clear HBB HBL hlA hlC
      obtain ⟨HOW⟩ : Nonempty (Hid (Calls _ _ _ _ _)) := ⟨ownAttr_any _ A wx HS2.out.ka.attrK HSM.out.1.1 HSM.out.1.2⟩
      obtain ⟨a0, a1, a2, a3, a4⟩ := HS2.out.ra.cells
      go_wp2_with fail
      refine HOW.out.mono ?_
      rintro e w4 ⟨⟨v1, rfl, hk4⟩, hb4⟩
      obtain ⟨HS4⟩ : Nonempty (Hid (TS w w4 N E m A C p cp q cq p' cp' q' cq')) := ⟨HS2.out.on hb4⟩
      have hk4' := hk4
      obtain ⟨p1, c1, q1, d1, rfl, -, -, -, -⟩ := hk4
      obtain ⟨W5, hW5⟩ : ∃ W, Hid (w4.alloc (.cells #[.slice p1 A.path.length c1, .int .i64 A.pref, .int .i64 A.med, .int .i64 A.org, .slice q1 A.tags.length d1] 24) = W) := ⟨_, show _ = _ from rfl⟩
      obtain ⟨X1, hX1⟩ : ∃ X, Hid (w4.heap.size = X) := ⟨_, show _ = _ from rfl⟩
      obtain ⟨HT5⟩ : Nonempty (Hid (TO w W5 N E m A C p cp q cq p' cp' q' cq' X1 p1 c1 q1 d1)) := ⟨by
        rw [← show _ = W5 from hW5.out, ← show w4.heap.size = X1 from hX1.out]
        exact ⟨HS4.out.on (below_alloc _ _), Go.heap_alloc_new _ _, hk4'.below (below_alloc _ _)⟩⟩
      clear hb4 hk4' HOW a0 a1 a2 a3 a4
      go_upto_region 5 with fail
      rw [show w4.alloc (.cells #[.slice p1 A.path.length c1, .int .i64 A.pref, .int .i64 A.med, .int .i64 A.org, .slice q1 A.tags.length d1] 24) = W5 from hW5.out, show w4.heap.size = X1 from hX1.out]
      clear hW5 hX1 HS4 HS2
      obtain ⟨fc, hfc⟩ : ∃ c, Hid ((faultA A).1.toNat = c) := ⟨_, show _ = _ from rfl⟩
      obtain ⟨fd, hfd⟩ : ∃ c, Hid ((faultA A).2 = c) := ⟨_, show _ = _ from rfl⟩
      have HF : Hid (faultA A = ((fc : Int), fd)) := by
        show _ = _
        have := (fault_nine A).1
        rw [← hfc.out, ← hfd.out]
        exact Prod.ext (by simp; omega) rfl
      obtain ⟨HF9⟩ : Nonempty (Hid (fc ≤ 9)) := ⟨by have := fault_nine A; show fc ≤ 9; rw [← hfc.out]; omega⟩
      obtain ⟨HC1⟩ : Nonempty (Hid (∀ W, TO w W N E m A C p cp q cq p' cp' q' cq' X1 p1 c1 q1 d1 → Calls Tryz.prog 8 #[.agg #[.slice p1 A.path.length c1, .int .i64 A.pref, .int .i64 A.med, .int .i64 A.org, .slice q1 A.tags.length d1]] W fun r w' => (∃ v', r = .returned v' ∧ IsErr w' E v' fc fd) ∧ Below W.heap.size W w')) := ⟨fun W h => by
        have := aCheck_any _ A E m W h.ts.env h.ko.attr HSM.out.1.1 HSM.out.1.2
        rw [show (faultA A).1.toNat = fc from hfc.out, show (faultA A).2 = fd from hfd.out] at this
        exact this⟩
      obtain ⟨HC2⟩ : Nonempty (Hid (∀ W, TO w W N E m A C p cp q cq p' cp' q' cq' X1 p1 c1 q1 d1 → Calls Tryz.prog 19 #[.agg #[.slice p A.path.length cp, .int .i64 A.pref, .int .i64 A.med, .int .i64 A.org, .slice q A.tags.length cq]] W fun r w' => r = .returned (.agg #[.int .i64 (fc : Int), .int .i64 fd]) ∧ Below W.heap.size W w')) := ⟨fun W h => rAttrFault_any _ A W h.ts.ka.attrK.attr HSM.out.1.1 HSM.out.1.2 fc fd HF⟩
      obtain ⟨tb, htb⟩ : ∃ t : ByteArray, Hid (⟨(aTxtA A).toArray⟩ = t) := ⟨_, show _ = _ from rfl⟩
      obtain ⟨HC3⟩ : Nonempty (Hid (∀ W, TO w W N E m A C p cp q cq p' cp' q' cq' X1 p1 c1 q1 d1 → Calls Tryz.prog 9 #[.agg #[.slice p1 A.path.length c1, .int .i64 A.pref, .int .i64 A.med, .int .i64 A.org, .slice q1 A.tags.length d1]] W fun r w' => r = .returned (.string tb) ∧ Below W.heap.size W w')) := ⟨fun W h => by rw [← htb.out]; exact text_all _ A E m W h.ts.env h.ko.attr HSM.out.1.1 HSM.out.1.2⟩
      obtain ⟨HC4⟩ : Nonempty (Hid (∀ W, TO w W N E m A C p cp q cq p' cp' q' cq' X1 p1 c1 q1 d1 → Calls Tryz.prog 20 #[.agg #[.slice p A.path.length cp, .int .i64 A.pref, .int .i64 A.med, .int .i64 A.org, .slice q A.tags.length cq]] W fun r w' => r = .returned (.string tb) ∧ Below W.heap.size W w')) := ⟨fun W h => by rw [← htb.out]; exact rAttrText_all _ A W h.ts.ka.attrK.attr HSM.out.1.1 HSM.out.1.2⟩
      have t1 : (tb.toList == tb.toList) = true := by simp
      have t2 : (tb.toList != tb.toList) = false := by simp
      obtain ⟨HK5⟩ : Nonempty (Hid (∀ y, TO w y N E m A C p cp q cq p' cp' q' cq' X1 p1 c1 q1 d1 → (fun w' => (w'.cell? ⟨X1, 0, none⟩ = some (.slice p1 A.path.length c1) ∧ w'.cell? ⟨X1, 1, none⟩ = some (.int .i64 A.pref) ∧ w'.cell? ⟨X1, 2, none⟩ = some (.int .i64 A.med) ∧ w'.cell? ⟨X1, 3, none⟩ = some (.int .i64 A.org) ∧ w'.cell? ⟨X1, 4, none⟩ = some (.slice q1 A.tags.length d1)) ∧ (w'.cell? ⟨N, 0, none⟩ = some (.slice p A.path.length cp) ∧ w'.cell? ⟨N, 1, none⟩ = some (.int .i64 A.pref) ∧ w'.cell? ⟨N, 2, none⟩ = some (.int .i64 A.med) ∧ w'.cell? ⟨N, 3, none⟩ = some (.int .i64 A.org) ∧ w'.cell? ⟨N, 4, none⟩ = some (.slice q A.tags.length cq))) y)) := ⟨fun y h => ⟨h.ro.cells, h.ts.ra.cells⟩⟩
      obtain ⟨HD5⟩ : Nonempty (Hid (TO w W5.drew N E m A C p cp q cq p' cp' q' cq' X1 p1 c1 q1 d1)) := ⟨HT5.out.on (Below.refl _ _).drew⟩
      clear hfc hfd HF htb
      refine wp_region_noPanic ?_
      refine wp_region_held_drew (S := (fun w' => (w'.cell? ⟨X1, 0, none⟩ = some (.slice p1 A.path.length c1) ∧ w'.cell? ⟨X1, 1, none⟩ = some (.int .i64 A.pref) ∧ w'.cell? ⟨X1, 2, none⟩ = some (.int .i64 A.med) ∧ w'.cell? ⟨X1, 3, none⟩ = some (.int .i64 A.org) ∧ w'.cell? ⟨X1, 4, none⟩ = some (.slice q1 A.tags.length d1)) ∧ (w'.cell? ⟨N, 0, none⟩ = some (.slice p A.path.length cp) ∧ w'.cell? ⟨N, 1, none⟩ = some (.int .i64 A.pref) ∧ w'.cell? ⟨N, 2, none⟩ = some (.int .i64 A.med) ∧ w'.cell? ⟨N, 3, none⟩ = some (.int .i64 A.org) ∧ w'.cell? ⟨N, 4, none⟩ = some (.slice q A.tags.length cq)))) (by kernel_rfl) ?_ (fun hHeld => ?_)
      · exact HK5.out _ HD5.out
      refine wpAnyH_take (i := 0) (v := ?_) rfl (by kernel_rfl) (by kernel_rfl) (by kernel_rfl) (fun _ _ _ h => h) (Or.inl ⟨by rfl, ?_⟩) (by assumption) ?_
      rotate_left
      · (intro w hSw; (try dsimp only at hSw); go_simp; try (with_reducible rfl))
      try simp only [Act.put, List.setIfInBounds_toArray, List.set_cons_zero, List.set_cons_succ, List.getElem_toArray, List.getElem_cons_zero, List.getElem_cons_succ]
      refine wpAnyH_take (i := 2) (v := ?_) rfl (by kernel_rfl) (by kernel_rfl) (by kernel_rfl) (fun _ _ _ h => h) (Or.inl ⟨by rfl, ?_⟩) (by assumption) ?_
      rotate_left
      · (intro w hSw; (try dsimp only at hSw); go_simp; try (with_reducible rfl))
      try simp only [Act.put, List.setIfInBounds_toArray, List.set_cons_zero, List.set_cons_succ, List.getElem_toArray, List.getElem_cons_zero, List.getElem_cons_succ]
      refine wpAnyH_ready (rs := [1]) (by kernel_rfl) (by simp) ?_
      refine AllReadyH.cons rfl (fun K hK => ?_) AllReadyH.nil
      go_simp
      refine (HC1.out _ HD5.out).mono ?_
      rintro r y6 ⟨⟨v6, rfl, hv⟩, hb⟩
      obtain ⟨HD6⟩ : Nonempty (Hid (TO w y6 N E m A C p cp q cq p' cp' q' cq' X1 p1 c1 q1 d1)) := ⟨HD5.out.on hb⟩
      obtain ⟨HV6⟩ : Nonempty (Hid (IsErr y6 E v6 fc fd)) := ⟨hv⟩
      clear hv hb
      refine hK.out _ _ ?_ (fun hHeld => ?_)
      · exact HK5.out _ HD6.out
      clear hK K
      try simp only [Act.put, List.setIfInBounds_toArray, List.set_cons_zero, List.set_cons_succ, List.getElem_toArray, List.getElem_cons_zero, List.getElem_cons_succ]
      refine wpAnyH_ready (rs := [3]) (by kernel_rfl) (by simp) ?_
      refine AllReadyH.cons rfl (fun K hK => ?_) AllReadyH.nil
      go_simp
      refine (HC2.out _ HD6.out).mono ?_
      rintro r y7 ⟨rfl, hb⟩
      obtain ⟨HD7⟩ : Nonempty (Hid (TO w y7 N E m A C p cp q cq p' cp' q' cq' X1 p1 c1 q1 d1)) := ⟨HD6.out.on hb⟩
      obtain ⟨HV7⟩ : Nonempty (Hid (IsErr y7 E v6 fc fd)) := ⟨HV6.out.below hb⟩
      clear hb
      refine hK.out _ _ ?_ (fun hHeld => ?_)
      · exact HK5.out _ HD7.out
      clear hK K
      try simp only [Act.put, List.setIfInBounds_toArray, List.set_cons_zero, List.set_cons_succ, List.getElem_toArray, List.getElem_cons_zero, List.getElem_cons_succ]
      refine wpAnyH_ready (rs := [4]) (by kernel_rfl) (by simp) ?_
      refine AllReadyH.cons rfl (fun K hK => ?_) AllReadyH.nil
      go_simp
      refine (faulted_err HV7.out HF9.out HD7.out.ts.errs).mono ?_
      rintro r y8 ⟨rfl, hb⟩
      obtain ⟨HD8⟩ : Nonempty (Hid (TO w y8 N E m A C p cp q cq p' cp' q' cq' X1 p1 c1 q1 d1)) := ⟨HD7.out.on hb⟩
      clear hb
      refine hK.out _ _ ?_ (fun hHeld => ?_)
      · exact HK5.out _ HD8.out
      clear hK K
      try simp only [Act.put, List.setIfInBounds_toArray, List.set_cons_zero, List.set_cons_succ, List.getElem_toArray, List.getElem_cons_zero, List.getElem_cons_succ]
      refine wpAnyH_take (i := 5) (v := ?_) rfl (by kernel_rfl) (by kernel_rfl) (by kernel_rfl) (fun _ _ _ h => h) (Or.inl ⟨by rfl, ?_⟩) (by assumption) ?_
      rotate_left
      · (intro w hSw; (try dsimp only at hSw); go_simp; try (with_reducible rfl))
      try simp only [Act.put, List.setIfInBounds_toArray, List.set_cons_zero, List.set_cons_succ, List.getElem_toArray, List.getElem_cons_zero, List.getElem_cons_succ]
      refine wpAnyH_take (i := 6) (v := ?_) rfl (by kernel_rfl) (by kernel_rfl) (by kernel_rfl) (fun _ _ _ h => h) (Or.inl ⟨by rfl, ?_⟩) (by assumption) ?_
      rotate_left
      · (intro w hSw; (try dsimp only at hSw); go_simp; try (with_reducible rfl))
      try simp only [Act.put, List.setIfInBounds_toArray, List.set_cons_zero, List.set_cons_succ, List.getElem_toArray, List.getElem_cons_zero, List.getElem_cons_succ]
      refine wpAnyH_take (i := 7) (v := ?_) rfl (by kernel_rfl) (by kernel_rfl) (by kernel_rfl) (fun _ _ _ h => h) (Or.inl ⟨by rfl, ?_⟩) (by assumption) ?_
      rotate_left
      · (intro w hSw; (try dsimp only at hSw); go_simp; try (with_reducible rfl))
      try simp only [Act.put, List.setIfInBounds_toArray, List.set_cons_zero, List.set_cons_succ, List.getElem_toArray, List.getElem_cons_zero, List.getElem_cons_succ]
      refine wpAnyH_take (i := 9) (v := ?_) rfl (by kernel_rfl) (by kernel_rfl) (by kernel_rfl) (fun _ _ _ h => h) (Or.inl ⟨by rfl, ?_⟩) (by assumption) ?_
      rotate_left
      · (intro w hSw; (try dsimp only at hSw); go_simp; try (with_reducible rfl))
      try simp only [Act.put, List.setIfInBounds_toArray, List.set_cons_zero, List.set_cons_succ, List.getElem_toArray, List.getElem_cons_zero, List.getElem_cons_succ]
      refine wpAnyH_ready (rs := [8]) (by kernel_rfl) (by simp) ?_
      refine AllReadyH.cons rfl (fun K hK => ?_) AllReadyH.nil
      go_simp
      refine (HC3.out _ HD8.out).mono ?_
      rintro r y9 ⟨rfl, hb⟩
      obtain ⟨HD9⟩ : Nonempty (Hid (TO w y9 N E m A C p cp q cq p' cp' q' cq' X1 p1 c1 q1 d1)) := ⟨HD8.out.on hb⟩
      clear hb
      refine hK.out _ _ ?_ (fun hHeld => ?_)
      · exact HK5.out _ HD9.out
      clear hK K
      try simp only [Act.put, List.setIfInBounds_toArray, List.set_cons_zero, List.set_cons_succ, List.getElem_toArray, List.getElem_cons_zero, List.getElem_cons_succ]
      refine wpAnyH_ready (rs := [10]) (by kernel_rfl) (by simp) ?_
      refine AllReadyH.cons rfl (fun K hK => ?_) AllReadyH.nil
      go_simp
      refine (HC4.out _ HD9.out).mono ?_
      rintro r y10 ⟨rfl, hb⟩
      obtain ⟨HD10⟩ : Nonempty (Hid (TO w y10 N E m A C p cp q cq p' cp' q' cq' X1 p1 c1 q1 d1)) := ⟨HD9.out.on hb⟩
      clear hb
      refine hK.out _ _ ?_ (fun hHeld => ?_)
      · exact HK5.out _ HD10.out
      clear hK K
      try simp only [Act.put, List.setIfInBounds_toArray, List.set_cons_zero, List.set_cons_succ, List.getElem_toArray, List.getElem_cons_zero, List.getElem_cons_succ]
      refine wpAnyH_take (i := 11) (v := ?_) rfl (by kernel_rfl) (by kernel_rfl) (by kernel_rfl) (fun _ _ _ h => h) (Or.inl ⟨by rfl, ?_⟩) (by assumption) ?_
      rotate_left
      · (intro w hSw; (try dsimp only at hSw); go_simp; try (with_reducible rfl))
      try simp only [Act.put, List.setIfInBounds_toArray, List.set_cons_zero, List.set_cons_succ, List.getElem_toArray, List.getElem_cons_zero, List.getElem_cons_succ]
      refine wpAnyH_take (i := 12) (v := ?_) rfl (by kernel_rfl) (by kernel_rfl) (by kernel_rfl) (fun _ _ _ h => h) (Or.inl ⟨by rfl, ?_⟩) (by assumption) ?_
      rotate_left
      · (intro w hSw; (try dsimp only at hSw); go_simp; try (with_reducible rfl))
      try simp only [Act.put, List.setIfInBounds_toArray, List.set_cons_zero, List.set_cons_succ, List.getElem_toArray, List.getElem_cons_zero, List.getElem_cons_succ]
      refine wpAnyH_done (by kernel_rfl) ?_ _
      refine NoPanic.normal ?_
      clear hHeld HC1 HC2 HC3 HC4 HK5 HD5 HD6 HD7 HD8 HD9 t1 t2 HV6 HV7
      go_upto_if 52 with fail
      go_cut [] from 21 (fun w' => ∃ wx : World, Hid (TO w wx N E m A C p cp q cq p' cp' q' cq' X1 p1 c1 q1 d1) ∧ wx = w')
      case first J0 K0 hJ0 hK0 =>
        go_wp2_with fail
        first
          | (go_meet; exact ⟨y10, HD10, rfl⟩)
          | (show K0 _ _; refine hK0 _ _ (Met.intro (hJ0 _ _ ?_)); (repeat apply Exists.intro); exact ⟨⟨y10, HD10, rfl⟩, rfl⟩)
      case rest =>
        obtain ⟨wb, HB, hX⟩ := hcut
        subst hX
        clear HD10 HT5
        obtain ⟨Z, hZ⟩ : ∃ Z, Hid (wb.heap.size = Z) := ⟨_, show _ = _ from rfl⟩
        obtain ⟨HTO⟩ : Nonempty (Hid (∀ wx, Below Z wb wx → TO w wx N E m A C p cp q cq p' cp' q' cq' X1 p1 c1 q1 d1)) := ⟨fun wx hb => HB.out.on (by rw [show wb.heap.size = Z from hZ.out]; exact hb)⟩
        obtain ⟨HNZ⟩ : Nonempty (Hid (N < Z)) := ⟨by have := HB.out.ts.ra.lt; rw [show wb.heap.size = Z from hZ.out] at this; exact this⟩
        obtain ⟨cc, hcc⟩ : ∃ c, Hid ((readC s.data.toList).toNat = c) := ⟨_, show _ = _ from rfl⟩
        obtain ⟨RA, hRA⟩ : ∃ c, Hid (readA s.data.toList = c) := ⟨_, show _ = _ from rfl⟩
        obtain ⟨HN9⟩ : Nonempty (Hid (cc ≤ 9 ∧ Small RA)) := ⟨by
          have h1 := read_num s.data.toList
          have h2 := read_small s.data.toList
          rw [show (readC s.data.toList).toNat = cc from hcc.out] at h1
          rw [show readA s.data.toList = RA from hRA.out] at h2
          exact ⟨h1.2, h2⟩⟩
        have hse : s = ⟨s.data.toList.toArray⟩ := by cases s; simp
        have hsd : s.data.toList.length ≤ 150 := by rw [len_data]; exact hsl
        obtain ⟨HRD⟩ : Nonempty (Hid (∀ W, AttrEnv W E m → Calls Tryz.prog 10 #[.string s] W fun r w' => (∃ v, r = .returned (.tuple #[v, ev E cc]) ∧ AttrK w' v RA) ∧ Below W.heap.size W w')) := ⟨fun W hE => by
          have := aRead_any s.data.toList E m W hE (by omega)
          rw [show (readC s.data.toList).toNat = cc from hcc.out, show readA s.data.toList = RA from hRA.out, ← hse] at this
          exact this⟩
        obtain ⟨HRF⟩ : Nonempty (Hid (∀ W, Calls Tryz.prog 21 #[.string s] W fun r w' => (∃ v, r = .returned (.tuple #[v, .int .i64 (cc : Int)]) ∧ AttrK w' v RA) ∧ Below W.heap.size W w')) := ⟨fun W => by
          have := rReadAttr_any s.data.toList W (by omega)
          have h1 := (read_num s.data.toList).1
          rw [show (readC s.data.toList).toNat = cc from hcc.out] at h1
          rw [h1, show readA s.data.toList = RA from hRA.out, ← hse] at this
          exact this⟩
        clear hse hsd hcc hRA
        go_wp2_with fail
        refine (HRD.out _ HB.out.ts.env).mono ?_
        rintro e w7 ⟨⟨v2, rfl, hk7⟩, hb7⟩
        have hk7' := hk7
        obtain ⟨p2, c2, q2, d2, rfl, -, -, -, -⟩ := hk7
        obtain ⟨W8, hW8⟩ : ∃ W, Hid (w7.alloc (.cells #[.slice p2 RA.path.length c2, .int .i64 RA.pref, .int .i64 RA.med, .int .i64 RA.org, .slice q2 RA.tags.length d2] 24) = W) := ⟨_, show _ = _ from rfl⟩
        obtain ⟨X2, hX2⟩ : ∃ X, Hid (w7.heap.size = X) := ⟨_, show _ = _ from rfl⟩
        obtain ⟨H8⟩ : Nonempty (Hid (Below Z wb W8 ∧ (RY W8 X2 #[.slice p2 RA.path.length c2, .int .i64 RA.pref, .int .i64 RA.med, .int .i64 RA.org, .slice q2 RA.tags.length d2] ∧ AttrK W8 (.agg #[.slice p2 RA.path.length c2, .int .i64 RA.pref, .int .i64 RA.med, .int .i64 RA.org, .slice q2 RA.tags.length d2]) RA) ∧ Z ≤ X2)) := ⟨by
          rw [← show _ = W8 from hW8.out, ← show w7.heap.size = X2 from hX2.out, ← show wb.heap.size = Z from hZ.out]
          exact ⟨hb7.alloc hb7.size _, ⟨Go.heap_alloc_new _ _, hk7'.below (below_alloc _ _)⟩, hb7.size⟩⟩
        obtain ⟨u, hu⟩ : ∃ u, Hid (ev E cc = u) := ⟨_, show _ = _ from rfl⟩
        rw [show ev E cc = u from hu.out]
        clear hb7 hk7' HRD
        go_upto_region 8 with fail
        rw [show w7.alloc (.cells #[.slice p2 RA.path.length c2, .int .i64 RA.pref, .int .i64 RA.med, .int .i64 RA.org, .slice q2 RA.tags.length d2] 24) = W8 from hW8.out, show w7.heap.size = X2 from hX2.out]
        clear hW8 hX2
        go_wp2_with fail
        refine (HRF.out _).mono ?_
        rintro e w9 ⟨⟨v3, rfl, hk9⟩, hb9⟩
        have hk9' := hk9
        obtain ⟨p3, c3, q3, d3, rfl, -, -, -, -⟩ := hk9
        obtain ⟨W10, hW10⟩ : ∃ W, Hid (w9.alloc (.cells #[.slice p3 RA.path.length c3, .int .i64 RA.pref, .int .i64 RA.med, .int .i64 RA.org, .slice q3 RA.tags.length d3] 24) = W) := ⟨_, show _ = _ from rfl⟩
        obtain ⟨X3, hX3⟩ : ∃ X, Hid (w9.heap.size = X) := ⟨_, show _ = _ from rfl⟩
        obtain ⟨H10⟩ : Nonempty (Hid (Below Z wb W10 ∧ (RY W10 X2 #[.slice p2 RA.path.length c2, .int .i64 RA.pref, .int .i64 RA.med, .int .i64 RA.org, .slice q2 RA.tags.length d2] ∧ AttrK W10 (.agg #[.slice p2 RA.path.length c2, .int .i64 RA.pref, .int .i64 RA.med, .int .i64 RA.org, .slice q2 RA.tags.length d2]) RA) ∧ (RY W10 X3 #[.slice p3 RA.path.length c3, .int .i64 RA.pref, .int .i64 RA.med, .int .i64 RA.org, .slice q3 RA.tags.length d3] ∧ AttrK W10 (.agg #[.slice p3 RA.path.length c3, .int .i64 RA.pref, .int .i64 RA.med, .int .i64 RA.org, .slice q3 RA.tags.length d3]) RA) ∧ Z ≤ X2 ∧ X2 < X3)) := ⟨by
          have hb : Below W8.heap.size W8 (w9.alloc (.cells #[.slice p3 RA.path.length c3, .int .i64 RA.pref, .int .i64 RA.med, .int .i64 RA.org, .slice q3 RA.tags.length d3] 24)) := hb9.alloc hb9.size _
          have hlt := H8.out.2.1.1.lt
          rw [← show _ = W10 from hW10.out, ← show w9.heap.size = X3 from hX3.out]
          exact ⟨H8.out.1.trans (hb.mono (by have := H8.out.2.2; omega)), ⟨H8.out.2.1.1.on hb, H8.out.2.1.2.below hb⟩, ⟨Go.heap_alloc_new _ _, hk9'.below (below_alloc _ _)⟩, H8.out.2.2, by have := hb9.size; omega⟩⟩
        clear hb9 hk9' HRF H8
        go_upto_region 9 with fail
        rw [show w9.alloc (.cells #[.slice p3 RA.path.length c3, .int .i64 RA.pref, .int .i64 RA.med, .int .i64 RA.org, .slice q3 RA.tags.length d3] 24) = W10 from hW10.out, show w9.heap.size = X3 from hX3.out]
        clear hW10 hX3
        obtain ⟨b0, b1, b2, b3, b4⟩ := H10.out.2.1.1.cells
        obtain ⟨k0, k1, k2, k3, k4⟩ := H10.out.2.2.1.1.cells
        obtain ⟨HSA⟩ : Nonempty (Hid (Calls _ _ _ _ _)) := ⟨rSame_one _ _ RA W10 H10.out.2.1.2.attr H10.out.2.2.1.2.attr HN9.out.2⟩
        go_wp2_with fail
        refine HSA.out.mono ?_
        rintro e w11 ⟨rfl, hb11⟩
        obtain ⟨HZ⟩ : Nonempty (Hid (Z ≤ X2 ∧ X2 < X3)) := ⟨H10.out.2.2.2⟩
        obtain ⟨HS11⟩ : Nonempty (Hid (SS wb w11 Z X2 X3)) := ⟨SS.on ⟨H10.out.1, ⟨_, _, _, _, _, H10.out.2.1.1⟩, ⟨_, _, _, _, _, H10.out.2.2.1.1⟩⟩ HZ.out.1 hb11⟩
        clear hb11 HSA H10 b0 b1 b2 b3 b4 k0 k1 k2 k3 k4
        obtain ⟨HCD⟩ : Nonempty (Hid (Calls Tryz.prog 23 #[u, .int .i64 (cc : Int)] w11 _)) := ⟨by rw [← hu.out]; exact coded_ev cc HN9.out.1 E w11 (HTO.out _ HS11.out.b).ts.errs⟩
        go_wp2_with fail
        refine HCD.out.mono ?_
        rintro e w12 ⟨rfl, hb12⟩
        obtain ⟨HS12⟩ : Nonempty (Hid (SS wb w12 Z X2 X3)) := ⟨HS11.out.on HZ.out.1 hb12⟩
        clear hb12 HCD HS11 hu HN9
        go_upto_if 73 with fail
        go_cut [] from 21 (fun w' => ∃ wx : World, Hid (SS wb wx Z X2 X3) ∧ wx = w')
        case first J0 K0 hJ0 hK0 =>
          go_wp2_with fail
          first
            | (go_meet; exact ⟨w12, HS12, rfl⟩)
            | (show K0 _ _; refine hK0 _ _ (Met.intro (hJ0 _ _ ?_)); (repeat apply Exists.intro); exact ⟨⟨w12, HS12, rfl⟩, rfl⟩)
        case rest =>
          obtain ⟨wx, HSS, hX⟩ := hcut
          subst hX
          clear HS12
          obtain ⟨cc, hcc⟩ : ∃ c, Hid ((leadC A x n).toNat = c) := ⟨_, show _ = _ from rfl⟩
          obtain ⟨LA, hLA⟩ : ∃ c, Hid ((if leadC A x n = 0 then leadA A x n else noneA) = c) := ⟨_, show _ = _ from rfl⟩
          obtain ⟨HN9⟩ : Nonempty (Hid (cc ≤ 9 ∧ Small LA)) := ⟨by
            have h1 := lead_num A x n
            have h2 := lead_small A x n
            rw [show (leadC A x n).toNat = cc from hcc.out] at h1
            rw [show (if leadC A x n = 0 then leadA A x n else noneA) = LA from hLA.out] at h2
            exact ⟨h1.2, h2⟩⟩
          obtain ⟨u, hu⟩ : ∃ u, Hid (ev E cc = u) := ⟨_, show _ = _ from rfl⟩
          obtain ⟨HTX⟩ : Nonempty (Hid (TO w wx N E m A C p cp q cq p' cp' q' cq' X1 p1 c1 q1 d1)) := ⟨HTO.out _ HSS.out.b⟩
          obtain ⟨HLD⟩ : Nonempty (Hid (Calls Tryz.prog 12 #[.agg #[.slice p1 A.path.length c1, .int .i64 A.pref, .int .i64 A.med, .int .i64 A.org, .slice q1 A.tags.length d1], .int .i64 x, .int .i64 n] wx fun r w' => (∃ v', r = .returned (.tuple #[v', u]) ∧ AttrG w' v' LA wx.heap.size) ∧ Below wx.heap.size wx w')) := ⟨by
            have := lead_own _ A x n E m wx HTX.out.ts.env HTX.out.ko HSM.out.1.1 HSM.out.1.2
            rw [show (leadC A x n).toNat = cc from hcc.out, show (if leadC A x n = 0 then leadA A x n else noneA) = LA from hLA.out, show ev E cc = u from hu.out] at this
            exact this⟩
          obtain ⟨HLF⟩ : Nonempty (Hid (∀ W, TO w W N E m A C p cp q cq p' cp' q' cq' X1 p1 c1 q1 d1 → Calls Tryz.prog 24 #[.agg #[.slice p A.path.length cp, .int .i64 A.pref, .int .i64 A.med, .int .i64 A.org, .slice q A.tags.length cq], .int .i64 x, .int .i64 n] W fun r w' => (∃ v', r = .returned (.tuple #[v', .int .i64 (cc : Int)]) ∧ AttrH w' v' LA N W.heap.size) ∧ Below W.heap.size W w')) := ⟨fun W h => by
            have := rLeadOf_any _ A x n N W h.ts.ka HSM.out.1.1 HSM.out.1.2
            have h1 := (lead_num A x n).1
            rw [show (leadC A x n).toNat = cc from hcc.out] at h1
            rw [show (if leadC A x n = 0 then leadA A x n else noneA) = LA from hLA.out, h1] at this
            exact this⟩
          clear hcc hLA
          obtain ⟨a0, a1, a2, a3, a4⟩ := HTX.out.ro.cells
          go_wp2_with fail
          refine HLD.out.mono ?_
          rintro e w7 ⟨⟨v2, rfl, hg7⟩, hb7⟩
          have hg7' := hg7
          obtain ⟨p2, c2, q2, d2, rfl, -, -, -, -, -, -⟩ := hg7
          obtain ⟨HS7⟩ : Nonempty (Hid (SS wb w7 Z X2 X3)) := ⟨HSS.out.on HZ.out.1 hb7⟩
          obtain ⟨x0, x1, x2, x3, x4, hr⟩ := HS7.out.r2
          obtain ⟨b0, b1, b2, b3, b4⟩ := hr.cells
          have y0 := hr.soft 0
          have y1 := hr.soft 1
          have y2 := hr.soft 2
          have y3 := hr.soft 3
          have y4 := hr.soft 4
          obtain ⟨W8, hW8⟩ : ∃ W, Hid ((((((w7.setCell ⟨X2, 0, none⟩ (.slice p2 LA.path.length c2)).setCell ⟨X2, 1, none⟩ (.int .i64 LA.pref)).setCell ⟨X2, 2, none⟩ (.int .i64 LA.med)).setCell ⟨X2, 3, none⟩ (.int .i64 LA.org)).setCell ⟨X2, 4, none⟩ (.slice q2 LA.tags.length d2)) = W) := ⟨_, show _ = _ from rfl⟩
          obtain ⟨H8⟩ : Nonempty (Hid (SS wb W8 Z X2 X3 ∧ RY W8 X2 #[.slice p2 LA.path.length c2, .int .i64 LA.pref, .int .i64 LA.med, .int .i64 LA.org, .slice q2 LA.tags.length d2] ∧ AttrG W8 (.agg #[.slice p2 LA.path.length c2, .int .i64 LA.pref, .int .i64 LA.med, .int .i64 LA.org, .slice q2 LA.tags.length d2]) LA wx.heap.size ∧ X3 < wx.heap.size)) := ⟨by
            have l2 := HSS.out.r2.lt
            have l3 := HSS.out.r3.lt
            exact ⟨HS7.out.set2 HZ.out.1 (by have := HZ.out.2; omega) hW8.out, hr.set5 hW8.out, hg7'.set5 l2 hW8.out, l3⟩⟩
          clear hg7' hb7 HLD hr
          go_upto_region 13 with fail
          rw [show (((((w7.setCell ⟨X2, 0, none⟩ (.slice p2 LA.path.length c2)).setCell ⟨X2, 1, none⟩ (.int .i64 LA.pref)).setCell ⟨X2, 2, none⟩ (.int .i64 LA.med)).setCell ⟨X2, 3, none⟩ (.int .i64 LA.org)).setCell ⟨X2, 4, none⟩ (.slice q2 LA.tags.length d2)) = W8 from hW8.out]
          clear hW8 a0 a1 a2 a3 a4 b0 b1 b2 b3 b4 y0 y1 y2 y3 y4 HS7 HTX
          obtain ⟨HT8⟩ : Nonempty (Hid (TO w W8 N E m A C p cp q cq p' cp' q' cq' X1 p1 c1 q1 d1)) := ⟨HTO.out _ H8.out.1.b⟩
          obtain ⟨a0, a1, a2, a3, a4⟩ := HT8.out.ts.ra.cells
          go_wp2_with fail
          refine (HLF.out _ HT8.out).mono ?_
          rintro e w9 ⟨⟨v3, rfl, hh9⟩, hb9⟩
          have hh9' := hh9
          obtain ⟨p3, c3, q3, d3, rfl, -, -, -, -, -, -⟩ := hh9
          obtain ⟨HS9⟩ : Nonempty (Hid (SS wb w9 Z X2 X3)) := ⟨H8.out.1.on HZ.out.1 hb9⟩
          obtain ⟨x5, x6, x7, x8, x9, hr⟩ := HS9.out.r3
          obtain ⟨b0, b1, b2, b3, b4⟩ := hr.cells
          have y0 := hr.soft 0
          have y1 := hr.soft 1
          have y2 := hr.soft 2
          have y3 := hr.soft 3
          have y4 := hr.soft 4
          obtain ⟨W10, hW10⟩ : ∃ W, Hid ((((((w9.setCell ⟨X3, 0, none⟩ (.slice p3 LA.path.length c3)).setCell ⟨X3, 1, none⟩ (.int .i64 LA.pref)).setCell ⟨X3, 2, none⟩ (.int .i64 LA.med)).setCell ⟨X3, 3, none⟩ (.int .i64 LA.org)).setCell ⟨X3, 4, none⟩ (.slice q3 LA.tags.length d3)) = W) := ⟨_, show _ = _ from rfl⟩
          obtain ⟨H10⟩ : Nonempty (Hid (SS wb W10 Z X2 X3 ∧ (RY W10 X2 #[.slice p2 LA.path.length c2, .int .i64 LA.pref, .int .i64 LA.med, .int .i64 LA.org, .slice q2 LA.tags.length d2] ∧ AttrK W10 (.agg #[.slice p2 LA.path.length c2, .int .i64 LA.pref, .int .i64 LA.med, .int .i64 LA.org, .slice q2 LA.tags.length d2]) LA) ∧ (RY W10 X3 #[.slice p3 LA.path.length c3, .int .i64 LA.pref, .int .i64 LA.med, .int .i64 LA.org, .slice q3 LA.tags.length d3] ∧ AttrK W10 (.agg #[.slice p3 LA.path.length c3, .int .i64 LA.pref, .int .i64 LA.med, .int .i64 LA.org, .slice q3 LA.tags.length d3]) LA))) := ⟨by
            have l3 := H8.out.2.2.2
            have l4 := H8.out.1.r3.lt
            have hz := HZ.out
            have hn := HNZ.out
            exact ⟨HS9.out.set3 (by omega) (by omega) hW10.out, ⟨(H8.out.2.1.on hb9).other (by omega) hW10.out, ((H8.out.2.2.1.below hb9).set5 l3 hW10.out).attrK⟩, hr.set5 hW10.out, hh9'.set5 (by omega) l4 hW10.out⟩⟩
          clear hh9' hb9 HLF hr
          go_upto_region 14 with fail
          rw [show (((((w9.setCell ⟨X3, 0, none⟩ (.slice p3 LA.path.length c3)).setCell ⟨X3, 1, none⟩ (.int .i64 LA.pref)).setCell ⟨X3, 2, none⟩ (.int .i64 LA.med)).setCell ⟨X3, 3, none⟩ (.int .i64 LA.org)).setCell ⟨X3, 4, none⟩ (.slice q3 LA.tags.length d3)) = W10 from hW10.out]
          clear hW10 a0 a1 a2 a3 a4 b0 b1 b2 b3 b4 y0 y1 y2 y3 y4 HS9 HT8 H8
          obtain ⟨b0, b1, b2, b3, b4⟩ := H10.out.2.1.1.cells
          obtain ⟨k0, k1, k2, k3, k4⟩ := H10.out.2.2.1.cells
          obtain ⟨HSA⟩ : Nonempty (Hid (Calls _ _ _ _ _)) := ⟨rSame_one _ _ LA W10 H10.out.2.1.2.attr H10.out.2.2.2.attr HN9.out.2⟩
          go_wp2_with fail
          refine HSA.out.mono ?_
          rintro e w11 ⟨rfl, hb11⟩
          obtain ⟨HS11⟩ : Nonempty (Hid (SS wb w11 Z X2 X3)) := ⟨H10.out.1.on HZ.out.1 hb11⟩
          clear hb11 HSA H10 b0 b1 b2 b3 b4 k0 k1 k2 k3 k4
          obtain ⟨HCD⟩ : Nonempty (Hid (Calls Tryz.prog 23 #[u, .int .i64 (cc : Int)] w11 _)) := ⟨by rw [← hu.out]; exact coded_ev cc HN9.out.1 E w11 (HTO.out _ HS11.out.b).ts.errs⟩
          go_wp2_with fail
          refine HCD.out.mono ?_
          rintro e w12 ⟨rfl, hb12⟩
          obtain ⟨HS12⟩ : Nonempty (Hid (SS wb w12 Z X2 X3)) := ⟨HS11.out.on HZ.out.1 hb12⟩
          clear hb12 HCD HS11 hu HN9
          go_upto_if 98 with fail
          go_cut [] from 21 (fun w' => ∃ wz : World, Hid (SS wb wz Z X2 X3) ∧ wz = w')
          case first J0 K0 hJ0 hK0 =>
            go_wp2_with fail
            first
              | (go_meet; exact ⟨w12, HS12, rfl⟩)
              | (show K0 _ _; refine hK0 _ _ (Met.intro (hJ0 _ _ ?_)); (repeat apply Exists.intro); exact ⟨⟨w12, HS12, rfl⟩, rfl⟩)
          case rest =>
            obtain ⟨wz, HSZ, hX⟩ := hcut
            subst hX
            clear HS12 HSS
            obtain ⟨cc, hcc⟩ : ∃ c, Hid ((tagC A n).toNat = c) := ⟨_, show _ = _ from rfl⟩
            obtain ⟨LA, hLA⟩ : ∃ c, Hid ((if tagC A n = 0 then tagA A n else noneA) = c) := ⟨_, show _ = _ from rfl⟩
            obtain ⟨HN9⟩ : Nonempty (Hid (cc ≤ 9 ∧ Small LA)) := ⟨by
              have h1 := tag_num A n
              have h2 := tag_small A n
              rw [show (tagC A n).toNat = cc from hcc.out] at h1
              rw [show (if tagC A n = 0 then tagA A n else noneA) = LA from hLA.out] at h2
              exact ⟨h1.2, h2⟩⟩
            obtain ⟨u, hu⟩ : ∃ u, Hid (ev E cc = u) := ⟨_, show _ = _ from rfl⟩
            obtain ⟨HTX⟩ : Nonempty (Hid (TO w wz N E m A C p cp q cq p' cp' q' cq' X1 p1 c1 q1 d1)) := ⟨HTO.out _ HSZ.out.b⟩
            obtain ⟨HLD⟩ : Nonempty (Hid (Calls Tryz.prog 15 #[.agg #[.slice p1 A.path.length c1, .int .i64 A.pref, .int .i64 A.med, .int .i64 A.org, .slice q1 A.tags.length d1], .int .i64 n] wz fun r w' => (∃ v', r = .returned (.tuple #[v', u]) ∧ AttrG w' v' LA wz.heap.size) ∧ Below wz.heap.size wz w')) := ⟨by
              have := tag_own _ A n E m wz HTX.out.ts.env HTX.out.ko HSM.out.1.1 HSM.out.1.2
              rw [show (tagC A n).toNat = cc from hcc.out, show (if tagC A n = 0 then tagA A n else noneA) = LA from hLA.out, show ev E cc = u from hu.out] at this
              exact this⟩
            obtain ⟨HLF⟩ : Nonempty (Hid (∀ W, TO w W N E m A C p cp q cq p' cp' q' cq' X1 p1 c1 q1 d1 → Calls Tryz.prog 25 #[.agg #[.slice p A.path.length cp, .int .i64 A.pref, .int .i64 A.med, .int .i64 A.org, .slice q A.tags.length cq], .int .i64 n] W fun r w' => (∃ v', r = .returned (.tuple #[v', .int .i64 (cc : Int)]) ∧ AttrH w' v' LA N W.heap.size) ∧ Below W.heap.size W w')) := ⟨fun W h => by
              have := rTagOf_any _ A n N W h.ts.ka HSM.out.1.1 HSM.out.1.2
              have h1 := (tag_num A n).1
              rw [show (tagC A n).toNat = cc from hcc.out] at h1
              rw [show (if tagC A n = 0 then tagA A n else noneA) = LA from hLA.out, h1] at this
              exact this⟩
            clear hcc hLA
            obtain ⟨a0, a1, a2, a3, a4⟩ := HTX.out.ro.cells
            go_wp2_with fail
            refine HLD.out.mono ?_
            rintro e w7 ⟨⟨v2, rfl, hg7⟩, hb7⟩
            have hg7' := hg7
            obtain ⟨p2, c2, q2, d2, rfl, -, -, -, -, -, -⟩ := hg7
            obtain ⟨HS7⟩ : Nonempty (Hid (SS wb w7 Z X2 X3)) := ⟨HSZ.out.on HZ.out.1 hb7⟩
            obtain ⟨x0, x1, x2, x3, x4, hr⟩ := HS7.out.r2
            obtain ⟨b0, b1, b2, b3, b4⟩ := hr.cells
            have y0 := hr.soft 0
            have y1 := hr.soft 1
            have y2 := hr.soft 2
            have y3 := hr.soft 3
            have y4 := hr.soft 4
            obtain ⟨W8, hW8⟩ : ∃ W, Hid ((((((w7.setCell ⟨X2, 0, none⟩ (.slice p2 LA.path.length c2)).setCell ⟨X2, 1, none⟩ (.int .i64 LA.pref)).setCell ⟨X2, 2, none⟩ (.int .i64 LA.med)).setCell ⟨X2, 3, none⟩ (.int .i64 LA.org)).setCell ⟨X2, 4, none⟩ (.slice q2 LA.tags.length d2)) = W) := ⟨_, show _ = _ from rfl⟩
            obtain ⟨H8⟩ : Nonempty (Hid (SS wb W8 Z X2 X3 ∧ RY W8 X2 #[.slice p2 LA.path.length c2, .int .i64 LA.pref, .int .i64 LA.med, .int .i64 LA.org, .slice q2 LA.tags.length d2] ∧ AttrG W8 (.agg #[.slice p2 LA.path.length c2, .int .i64 LA.pref, .int .i64 LA.med, .int .i64 LA.org, .slice q2 LA.tags.length d2]) LA wz.heap.size ∧ X3 < wz.heap.size)) := ⟨by
              have l2 := HSZ.out.r2.lt
              have l3 := HSZ.out.r3.lt
              exact ⟨HS7.out.set2 HZ.out.1 (by have := HZ.out.2; omega) hW8.out, hr.set5 hW8.out, hg7'.set5 l2 hW8.out, l3⟩⟩
            clear hg7' hb7 HLD hr
            go_upto_region 18 with fail
            rw [show (((((w7.setCell ⟨X2, 0, none⟩ (.slice p2 LA.path.length c2)).setCell ⟨X2, 1, none⟩ (.int .i64 LA.pref)).setCell ⟨X2, 2, none⟩ (.int .i64 LA.med)).setCell ⟨X2, 3, none⟩ (.int .i64 LA.org)).setCell ⟨X2, 4, none⟩ (.slice q2 LA.tags.length d2)) = W8 from hW8.out]
            clear hW8 a0 a1 a2 a3 a4 b0 b1 b2 b3 b4 y0 y1 y2 y3 y4 HS7 HTX
            obtain ⟨HT8⟩ : Nonempty (Hid (TO w W8 N E m A C p cp q cq p' cp' q' cq' X1 p1 c1 q1 d1)) := ⟨HTO.out _ H8.out.1.b⟩
            obtain ⟨a0, a1, a2, a3, a4⟩ := HT8.out.ts.ra.cells
            go_wp2_with fail
            refine (HLF.out _ HT8.out).mono ?_
            rintro e w9 ⟨⟨v3, rfl, hh9⟩, hb9⟩
            have hh9' := hh9
            obtain ⟨p3, c3, q3, d3, rfl, -, -, -, -, -, -⟩ := hh9
            obtain ⟨HS9⟩ : Nonempty (Hid (SS wb w9 Z X2 X3)) := ⟨H8.out.1.on HZ.out.1 hb9⟩
            obtain ⟨x5, x6, x7, x8, x9, hr⟩ := HS9.out.r3
            obtain ⟨b0, b1, b2, b3, b4⟩ := hr.cells
            have y0 := hr.soft 0
            have y1 := hr.soft 1
            have y2 := hr.soft 2
            have y3 := hr.soft 3
            have y4 := hr.soft 4
            obtain ⟨W10, hW10⟩ : ∃ W, Hid ((((((w9.setCell ⟨X3, 0, none⟩ (.slice p3 LA.path.length c3)).setCell ⟨X3, 1, none⟩ (.int .i64 LA.pref)).setCell ⟨X3, 2, none⟩ (.int .i64 LA.med)).setCell ⟨X3, 3, none⟩ (.int .i64 LA.org)).setCell ⟨X3, 4, none⟩ (.slice q3 LA.tags.length d3)) = W) := ⟨_, show _ = _ from rfl⟩
            obtain ⟨H10⟩ : Nonempty (Hid (SS wb W10 Z X2 X3 ∧ (RY W10 X2 #[.slice p2 LA.path.length c2, .int .i64 LA.pref, .int .i64 LA.med, .int .i64 LA.org, .slice q2 LA.tags.length d2] ∧ AttrK W10 (.agg #[.slice p2 LA.path.length c2, .int .i64 LA.pref, .int .i64 LA.med, .int .i64 LA.org, .slice q2 LA.tags.length d2]) LA) ∧ (RY W10 X3 #[.slice p3 LA.path.length c3, .int .i64 LA.pref, .int .i64 LA.med, .int .i64 LA.org, .slice q3 LA.tags.length d3] ∧ AttrK W10 (.agg #[.slice p3 LA.path.length c3, .int .i64 LA.pref, .int .i64 LA.med, .int .i64 LA.org, .slice q3 LA.tags.length d3]) LA))) := ⟨by
              have l3 := H8.out.2.2.2
              have l4 := H8.out.1.r3.lt
              have hz := HZ.out
              have hn := HNZ.out
              exact ⟨HS9.out.set3 (by omega) (by omega) hW10.out, ⟨(H8.out.2.1.on hb9).other (by omega) hW10.out, ((H8.out.2.2.1.below hb9).set5 l3 hW10.out).attrK⟩, hr.set5 hW10.out, hh9'.set5 (by omega) l4 hW10.out⟩⟩
            clear hh9' hb9 HLF hr
            go_upto_region 19 with fail
            rw [show (((((w9.setCell ⟨X3, 0, none⟩ (.slice p3 LA.path.length c3)).setCell ⟨X3, 1, none⟩ (.int .i64 LA.pref)).setCell ⟨X3, 2, none⟩ (.int .i64 LA.med)).setCell ⟨X3, 3, none⟩ (.int .i64 LA.org)).setCell ⟨X3, 4, none⟩ (.slice q3 LA.tags.length d3)) = W10 from hW10.out]
            clear hW10 a0 a1 a2 a3 a4 b0 b1 b2 b3 b4 y0 y1 y2 y3 y4 HS9 HT8 H8
            obtain ⟨b0, b1, b2, b3, b4⟩ := H10.out.2.1.1.cells
            obtain ⟨k0, k1, k2, k3, k4⟩ := H10.out.2.2.1.cells
            obtain ⟨HSA⟩ : Nonempty (Hid (Calls _ _ _ _ _)) := ⟨rSame_one _ _ LA W10 H10.out.2.1.2.attr H10.out.2.2.2.attr HN9.out.2⟩
            go_wp2_with fail
            refine HSA.out.mono ?_
            rintro e w11 ⟨rfl, hb11⟩
            obtain ⟨HS11⟩ : Nonempty (Hid (SS wb w11 Z X2 X3)) := ⟨H10.out.1.on HZ.out.1 hb11⟩
            clear hb11 HSA H10 b0 b1 b2 b3 b4 k0 k1 k2 k3 k4
            obtain ⟨HCD⟩ : Nonempty (Hid (Calls Tryz.prog 23 #[u, .int .i64 (cc : Int)] w11 _)) := ⟨by rw [← hu.out]; exact coded_ev cc HN9.out.1 E w11 (HTO.out _ HS11.out.b).ts.errs⟩
            go_wp2_with fail
            refine HCD.out.mono ?_
            rintro e w12 ⟨rfl, hb12⟩
            obtain ⟨HS12⟩ : Nonempty (Hid (SS wb w12 Z X2 X3)) := ⟨HS11.out.on HZ.out.1 hb12⟩
            clear hb12 HCD HS11 hu HN9
            go_upto_if 121 with fail
            go_cut [] from 21 (fun w' => ∃ wy : World, Hid (SS wb wy Z X2 X3) ∧ wy = w')
            case first J0 K0 hJ0 hK0 =>
              go_wp2_with fail
              first
                | (go_meet; exact ⟨w12, HS12, rfl⟩)
                | (show K0 _ _; refine hK0 _ _ (Met.intro (hJ0 _ _ ?_)); (repeat apply Exists.intro); exact ⟨⟨w12, HS12, rfl⟩, rfl⟩)
            case rest =>
              obtain ⟨wy, HSY, hX⟩ := hcut
              subst hX
              clear HS12 HSZ
              obtain ⟨HTY⟩ : Nonempty (Hid (TO w wy N E m A C p cp q cq p' cp' q' cq' X1 p1 c1 q1 d1)) := ⟨HTO.out _ HSY.out.b⟩
              clear HSY HZ HNZ HTO HB
              obtain ⟨bs, hbs⟩ : ∃ b, Hid (decide (A = C) = b) := ⟨_, show _ = _ from rfl⟩
              obtain ⟨bt, hbt⟩ : ∃ b, Hid (A.path.contains x = b) := ⟨_, show _ = _ from rfl⟩
              obtain ⟨HQ1⟩ : Nonempty (Hid (∀ W, TO w W N E m A C p cp q cq p' cp' q' cq' X1 p1 c1 q1 d1 → Calls Tryz.prog 22 #[.agg #[.slice p A.path.length cp, .int .i64 A.pref, .int .i64 A.med, .int .i64 A.org, .slice q A.tags.length cq], .agg #[.slice p' C.path.length cp', .int .i64 C.pref, .int .i64 C.med, .int .i64 C.org, .slice q' C.tags.length cq']] W fun r w' => r = .returned (.bool bs) ∧ Below W.heap.size W w')) := ⟨fun W h => by
                rw [← hbs.out]; exact rSameAttr_any _ _ A C W h.ts.ka.attrK.attr h.ts.kc.attr HSM.out.1.1 HSM.out.1.2 HSM.out.2.1 HSM.out.2.2⟩
              obtain ⟨HQ2⟩ : Nonempty (Hid (∀ W, TO w W N E m A C p cp q cq p' cp' q' cq' X1 p1 c1 q1 d1 → Calls Tryz.prog 22 #[.agg #[.slice p1 A.path.length c1, .int .i64 A.pref, .int .i64 A.med, .int .i64 A.org, .slice q1 A.tags.length d1], .agg #[.slice p A.path.length cp, .int .i64 A.pref, .int .i64 A.med, .int .i64 A.org, .slice q A.tags.length cq]] W fun r w' => r = .returned (.bool true) ∧ Below W.heap.size W w')) := ⟨fun W h => rSame_one _ _ A W h.ko.attr h.ts.ka.attrK.attr HSM.out.1⟩
              obtain ⟨HQ3⟩ : Nonempty (Hid (∀ W, TO w W N E m A C p cp q cq p' cp' q' cq' X1 p1 c1 q1 d1 → Calls Tryz.prog 16 #[.int .i64 x, .slice p A.path.length cp] W fun r w' => r = .returned (.bool bt) ∧ Below W.heap.size W w')) := ⟨fun W h => by
                rw [← hbt.out]; exact rInInts_any x p A.path _ cp W h.ts.ka.attrK.path rfl HSM.out.1.1⟩
              obtain ⟨HQ4⟩ : Nonempty (Hid (∀ W v, AttrK W v ⟨[], 100, 0, 0, []⟩ → Calls Tryz.prog 22 #[v, .agg #[.slice none 0 0, .int .i64 100, .int .i64 0, .int .i64 0, .slice none 0 0]] W fun r w' => r = .returned (.bool true) ∧ Below W.heap.size W w')) := ⟨fun W v h => rSame_one _ _ ⟨[], 100, 0, 0, []⟩ W h.attr ⟨none, 0, none, 0, rfl, ints_nil _ _, ints_nil _ _⟩ ⟨by simp, by simp⟩⟩
              obtain ⟨HQ5⟩ : Nonempty (Hid (∀ W, TO w W N E m A C p cp q cq p' cp' q' cq' X1 p1 c1 q1 d1 → Calls Tryz.prog 17 #[.agg #[.slice p' C.path.length cp', .int .i64 C.pref, .int .i64 C.med, .int .i64 C.org, .slice q' C.tags.length cq']] W fun r w' => (∃ v', r = .returned v' ∧ AttrK w' v' C) ∧ Below W.heap.size W w')) := ⟨fun W h => ownAttr_any _ C W h.ts.kc HSM.out.2.1 HSM.out.2.2⟩
              obtain ⟨HQ6⟩ : Nonempty (Hid (∀ W v, TO w W N E m A C p cp q cq p' cp' q' cq' X1 p1 c1 q1 d1 → AttrK W v C → Calls Tryz.prog 11 #[.agg #[.slice p1 A.path.length c1, .int .i64 A.pref, .int .i64 A.med, .int .i64 A.org, .slice q1 A.tags.length d1], v] W fun r w' => r = .returned (.bool bs) ∧ Below W.heap.size W w')) := ⟨fun W v h hv => by
                rw [← hbs.out]; exact same_any _ _ A C W h.ko.attr hv.attr HSM.out.1.1 HSM.out.1.2 HSM.out.2.1 HSM.out.2.2⟩
              obtain ⟨HQ7⟩ : Nonempty (Hid (∀ W, TO w W N E m A C p cp q cq p' cp' q' cq' X1 p1 c1 q1 d1 → Calls Tryz.prog 13 #[.agg #[.slice p1 A.path.length c1, .int .i64 A.pref, .int .i64 A.med, .int .i64 A.org, .slice q1 A.tags.length d1], .int .i64 x] W fun r w' => r = .returned (.bool bt) ∧ Below W.heap.size W w')) := ⟨fun W h => by
                rw [← hbt.out]; exact through_any _ A x W h.ko.attr HSM.out.1.1⟩
              clear hbs hbt
              obtain ⟨a0, a1, a2, a3, a4⟩ := HTY.out.ts.ra.cells
              obtain ⟨b0, b1, b2, b3, b4⟩ := HTY.out.ts.rc.cells
              go_wp2_with fail
              refine (HQ1.out _ HTY.out).mono ?_
              rintro e y1 ⟨rfl, hb⟩
              obtain ⟨HT1⟩ : Nonempty (Hid (TO w y1 N E m A C p cp q cq p' cp' q' cq' X1 p1 c1 q1 d1)) := ⟨HTY.out.on hb⟩
              clear hb HTY a0 a1 a2 a3 a4 b0 b1 b2 b3 b4
              obtain ⟨a0, a1, a2, a3, a4⟩ := HT1.out.ts.ra.cells
              obtain ⟨b0, b1, b2, b3, b4⟩ := HT1.out.ro.cells
              go_wp2_with fail
              refine (HQ2.out _ HT1.out).mono ?_
              rintro e y2 ⟨rfl, hb⟩
              obtain ⟨HT2⟩ : Nonempty (Hid (TO w y2 N E m A C p cp q cq p' cp' q' cq' X1 p1 c1 q1 d1)) := ⟨HT1.out.on hb⟩
              clear hb HT1 a0 a1 a2 a3 a4 b0 b1 b2 b3 b4
              obtain ⟨a0, a1, a2, a3, a4⟩ := HT2.out.ts.ra.cells
              go_wp2_with fail
              refine (HQ3.out _ HT2.out).mono ?_
              rintro e y3 ⟨rfl, hb⟩
              obtain ⟨HT3⟩ : Nonempty (Hid (TO w y3 N E m A C p cp q cq p' cp' q' cq' X1 p1 c1 q1 d1)) := ⟨HT2.out.on hb⟩
              clear hb HT2 a0 a1 a2 a3 a4
              go_wp2_with fail
              refine (own_none _).mono ?_
              rintro e y4 ⟨⟨v4, rfl, hv4⟩, hb⟩
              obtain ⟨HT4⟩ : Nonempty (Hid (TO w y4 N E m A C p cp q cq p' cp' q' cq' X1 p1 c1 q1 d1)) := ⟨HT3.out.on hb⟩
              obtain ⟨HV4⟩ : Nonempty (Hid (AttrK y4 v4 ⟨[], 100, 0, 0, []⟩)) := ⟨hv4⟩
              clear hb hv4 HT3
              go_wp2_with fail
              refine (HQ4.out _ _ HV4.out).mono ?_
              rintro e y5 ⟨rfl, hb⟩
              obtain ⟨HT5⟩ : Nonempty (Hid (TO w y5 N E m A C p cp q cq p' cp' q' cq' X1 p1 c1 q1 d1)) := ⟨HT4.out.on hb⟩
              clear hb HT4 HV4 HQ1 HQ2 HQ3 HQ4
              go_upto_region 26 with fail
              have e1 : (bs == bs) = true := by simp
              have e2 : (bt == bt) = true := by simp
              obtain ⟨HK26⟩ : Nonempty (Hid (∀ y, TO w y N E m A C p cp q cq p' cp' q' cq' X1 p1 c1 q1 d1 → (fun w' => (w'.cell? ⟨X1, 0, none⟩ = some (.slice p1 A.path.length c1) ∧ w'.cell? ⟨X1, 1, none⟩ = some (.int .i64 A.pref) ∧ w'.cell? ⟨X1, 2, none⟩ = some (.int .i64 A.med) ∧ w'.cell? ⟨X1, 3, none⟩ = some (.int .i64 A.org) ∧ w'.cell? ⟨X1, 4, none⟩ = some (.slice q1 A.tags.length d1)) ∧ (w'.cell? ⟨N + 1, 0, none⟩ = some (.slice p' C.path.length cp') ∧ w'.cell? ⟨N + 1, 1, none⟩ = some (.int .i64 C.pref) ∧ w'.cell? ⟨N + 1, 2, none⟩ = some (.int .i64 C.med) ∧ w'.cell? ⟨N + 1, 3, none⟩ = some (.int .i64 C.org) ∧ w'.cell? ⟨N + 1, 4, none⟩ = some (.slice q' C.tags.length cq'))) y)) := ⟨fun y h => ⟨h.ro.cells, h.ts.rc.cells⟩⟩
              obtain ⟨HD5⟩ : Nonempty (Hid (TO w y5.drew N E m A C p cp q cq p' cp' q' cq' X1 p1 c1 q1 d1)) := ⟨HT5.out.on (Below.refl _ _).drew⟩
              refine wp_region_noPanic ?_
              refine wp_region_held_drew (S := (fun w' => (w'.cell? ⟨X1, 0, none⟩ = some (.slice p1 A.path.length c1) ∧ w'.cell? ⟨X1, 1, none⟩ = some (.int .i64 A.pref) ∧ w'.cell? ⟨X1, 2, none⟩ = some (.int .i64 A.med) ∧ w'.cell? ⟨X1, 3, none⟩ = some (.int .i64 A.org) ∧ w'.cell? ⟨X1, 4, none⟩ = some (.slice q1 A.tags.length d1)) ∧ (w'.cell? ⟨N + 1, 0, none⟩ = some (.slice p' C.path.length cp') ∧ w'.cell? ⟨N + 1, 1, none⟩ = some (.int .i64 C.pref) ∧ w'.cell? ⟨N + 1, 2, none⟩ = some (.int .i64 C.med) ∧ w'.cell? ⟨N + 1, 3, none⟩ = some (.int .i64 C.org) ∧ w'.cell? ⟨N + 1, 4, none⟩ = some (.slice q' C.tags.length cq')))) (by kernel_rfl) ?_ (fun hHeld => ?_)
              · exact HK26.out _ HD5.out
              refine wpAnyH_take (i := 0) (v := ?_) rfl (by kernel_rfl) (by kernel_rfl) (by kernel_rfl) (fun _ _ _ h => h) (Or.inl ⟨by rfl, ?_⟩) (by assumption) ?_
              rotate_left
              · (intro w hSw; (try dsimp only at hSw); go_simp; try (with_reducible rfl))
              try simp only [Act.put, List.setIfInBounds_toArray, List.set_cons_zero, List.set_cons_succ, List.getElem_toArray, List.getElem_cons_zero, List.getElem_cons_succ]
              refine wpAnyH_take (i := 1) (v := ?_) rfl (by kernel_rfl) (by kernel_rfl) (by kernel_rfl) (fun _ _ _ h => h) (Or.inl ⟨by rfl, ?_⟩) (by assumption) ?_
              rotate_left
              · (intro w hSw; (try dsimp only at hSw); go_simp; try (with_reducible rfl))
              try simp only [Act.put, List.setIfInBounds_toArray, List.set_cons_zero, List.set_cons_succ, List.getElem_toArray, List.getElem_cons_zero, List.getElem_cons_succ]
              refine wpAnyH_take (i := 4) (v := ?_) rfl (by kernel_rfl) (by kernel_rfl) (by kernel_rfl) (fun _ _ _ h => h) (Or.inl ⟨by rfl, ?_⟩) (by assumption) ?_
              rotate_left
              · (intro w hSw; (try dsimp only at hSw); go_simp; try (with_reducible rfl))
              try simp only [Act.put, List.setIfInBounds_toArray, List.set_cons_zero, List.set_cons_succ, List.getElem_toArray, List.getElem_cons_zero, List.getElem_cons_succ]
              refine wpAnyH_ready (rs := [2]) (by kernel_rfl) (by simp) ?_
              refine AllReadyH.cons rfl (fun K hK => ?_) AllReadyH.nil
              go_simp
              refine (HQ5.out _ HD5.out).mono ?_
              rintro r y6 ⟨⟨v6, rfl, hv⟩, hb⟩
              obtain ⟨HD6⟩ : Nonempty (Hid (TO w y6 N E m A C p cp q cq p' cp' q' cq' X1 p1 c1 q1 d1)) := ⟨HD5.out.on hb⟩
              obtain ⟨HV6⟩ : Nonempty (Hid (AttrK y6 v6 C)) := ⟨hv⟩
              clear hv hb
              refine hK.out _ _ ?_ (fun hHeld => ?_)
              · exact HK26.out _ HD6.out
              clear hK K
              try simp only [Act.put, List.setIfInBounds_toArray, List.set_cons_zero, List.set_cons_succ, List.getElem_toArray, List.getElem_cons_zero, List.getElem_cons_succ]
              refine wpAnyH_ready (rs := [3]) (by kernel_rfl) (by simp) ?_
              refine AllReadyH.cons rfl (fun K hK => ?_) AllReadyH.nil
              go_simp
              refine (HQ6.out _ _ HD6.out HV6.out).mono ?_
              rintro r y7 ⟨rfl, hb⟩
              obtain ⟨HD7⟩ : Nonempty (Hid (TO w y7 N E m A C p cp q cq p' cp' q' cq' X1 p1 c1 q1 d1)) := ⟨HD6.out.on hb⟩
              clear hb
              refine hK.out _ _ ?_ (fun hHeld => ?_)
              · exact HK26.out _ HD7.out
              clear hK K
              try simp only [Act.put, List.setIfInBounds_toArray, List.set_cons_zero, List.set_cons_succ, List.getElem_toArray, List.getElem_cons_zero, List.getElem_cons_succ]
              refine wpAnyH_take (i := 5) (v := ?_) rfl (by kernel_rfl) (by kernel_rfl) (by kernel_rfl) (fun _ _ _ h => h) (Or.inl ⟨by rfl, ?_⟩) (by assumption) ?_
              rotate_left
              · (intro w hSw; (try dsimp only at hSw); go_simp; try (with_reducible rfl))
              try simp only [Act.put, List.setIfInBounds_toArray, List.set_cons_zero, List.set_cons_succ, List.getElem_toArray, List.getElem_cons_zero, List.getElem_cons_succ]
              refine wpAnyH_take (i := 6) (v := ?_) rfl (by kernel_rfl) (by kernel_rfl) (by kernel_rfl) (fun _ _ _ h => h) (Or.inl ⟨by rfl, ?_⟩) (by assumption) ?_
              rotate_left
              · (intro w hSw; (try dsimp only at hSw); go_simp; try (with_reducible rfl))
              try simp only [Act.put, List.setIfInBounds_toArray, List.set_cons_zero, List.set_cons_succ, List.getElem_toArray, List.getElem_cons_zero, List.getElem_cons_succ]
              refine wpAnyH_take (i := 7) (v := ?_) rfl (by kernel_rfl) (by kernel_rfl) (by kernel_rfl) (fun _ _ _ h => h) (Or.inl ⟨by rfl, ?_⟩) (by assumption) ?_
              rotate_left
              · (intro w hSw; (try dsimp only at hSw); go_simp; try (with_reducible rfl))
              try simp only [Act.put, List.setIfInBounds_toArray, List.set_cons_zero, List.set_cons_succ, List.getElem_toArray, List.getElem_cons_zero, List.getElem_cons_succ]
              refine wpAnyH_take (i := 8) (v := ?_) rfl (by kernel_rfl) (by kernel_rfl) (by kernel_rfl) (fun _ _ _ h => h) (Or.inl ⟨by rfl, ?_⟩) (by assumption) ?_
              rotate_left
              · (intro w hSw; (try dsimp only at hSw); go_simp; try (with_reducible rfl))
              try simp only [Act.put, List.setIfInBounds_toArray, List.set_cons_zero, List.set_cons_succ, List.getElem_toArray, List.getElem_cons_zero, List.getElem_cons_succ]
              refine wpAnyH_take (i := 10) (v := ?_) rfl (by kernel_rfl) (by kernel_rfl) (by kernel_rfl) (fun _ _ _ h => h) (Or.inl ⟨by rfl, ?_⟩) (by assumption) ?_
              rotate_left
              · (intro w hSw; (try dsimp only at hSw); go_simp; try (with_reducible rfl))
              try simp only [Act.put, List.setIfInBounds_toArray, List.set_cons_zero, List.set_cons_succ, List.getElem_toArray, List.getElem_cons_zero, List.getElem_cons_succ]
              refine wpAnyH_ready (rs := [9]) (by kernel_rfl) (by simp) ?_
              refine AllReadyH.cons rfl (fun K hK => ?_) AllReadyH.nil
              go_simp
              refine (HQ7.out _ HD7.out).mono ?_
              rintro r y8 ⟨rfl, hb⟩
              obtain ⟨HD8⟩ : Nonempty (Hid (TO w y8 N E m A C p cp q cq p' cp' q' cq' X1 p1 c1 q1 d1)) := ⟨HD7.out.on hb⟩
              clear hb
              refine hK.out _ _ ?_ (fun hHeld => ?_)
              · exact HK26.out _ HD8.out
              clear hK K
              try simp only [Act.put, List.setIfInBounds_toArray, List.set_cons_zero, List.set_cons_succ, List.getElem_toArray, List.getElem_cons_zero, List.getElem_cons_succ]
              refine wpAnyH_take (i := 11) (v := ?_) rfl (by kernel_rfl) (by kernel_rfl) (by kernel_rfl) (fun _ _ _ h => h) (Or.inl ⟨by rfl, ?_⟩) (by assumption) ?_
              rotate_left
              · (intro w hSw; (try dsimp only at hSw); go_simp; try (with_reducible rfl))
              try simp only [Act.put, List.setIfInBounds_toArray, List.set_cons_zero, List.set_cons_succ, List.getElem_toArray, List.getElem_cons_zero, List.getElem_cons_succ]
              refine wpAnyH_take (i := 12) (v := ?_) rfl (by kernel_rfl) (by kernel_rfl) (by kernel_rfl) (fun _ _ _ h => h) (Or.inl ⟨by rfl, ?_⟩) (by assumption) ?_
              rotate_left
              · (intro w hSw; (try dsimp only at hSw); go_simp; try (with_reducible rfl))
              try simp only [Act.put, List.setIfInBounds_toArray, List.set_cons_zero, List.set_cons_succ, List.getElem_toArray, List.getElem_cons_zero, List.getElem_cons_succ]
              refine wpAnyH_take (i := 13) (v := ?_) rfl (by kernel_rfl) (by kernel_rfl) (by kernel_rfl) (fun _ _ _ h => h) (Or.inl ⟨by rfl, ?_⟩) (by assumption) ?_
              rotate_left
              · (intro w hSw; (try dsimp only at hSw); go_simp; try (with_reducible rfl))
              try simp only [Act.put, List.setIfInBounds_toArray, List.set_cons_zero, List.set_cons_succ, List.getElem_toArray, List.getElem_cons_zero, List.getElem_cons_succ]
              refine wpAnyH_take (i := 14) (v := ?_) rfl (by kernel_rfl) (by kernel_rfl) (by kernel_rfl) (fun _ _ _ h => h) (Or.inl ⟨by rfl, ?_⟩) (by assumption) ?_
              rotate_left
              · (intro w hSw; (try dsimp only at hSw); go_simp; try (with_reducible rfl))
              try simp only [Act.put, List.setIfInBounds_toArray, List.set_cons_zero, List.set_cons_succ, List.getElem_toArray, List.getElem_cons_zero, List.getElem_cons_succ]
              refine wpAnyH_take (i := 15) (v := ?_) rfl (by kernel_rfl) (by kernel_rfl) (by kernel_rfl) (fun _ _ _ h => h) (Or.inl ⟨by rfl, ?_⟩) (by assumption) ?_
              rotate_left
              · (intro w hSw; (try dsimp only at hSw); go_simp; try (with_reducible rfl))
              try simp only [Act.put, List.setIfInBounds_toArray, List.set_cons_zero, List.set_cons_succ, List.getElem_toArray, List.getElem_cons_zero, List.getElem_cons_succ]
              refine wpAnyH_take (i := 16) (v := ?_) rfl (by kernel_rfl) (by kernel_rfl) (by kernel_rfl) (fun _ _ _ h => h) (Or.inl ⟨by rfl, ?_⟩) (by assumption) ?_
              rotate_left
              · (intro w hSw; (try dsimp only at hSw); go_simp; try (with_reducible rfl))
              try simp only [Act.put, List.setIfInBounds_toArray, List.set_cons_zero, List.set_cons_succ, List.getElem_toArray, List.getElem_cons_zero, List.getElem_cons_succ]
              refine wpAnyH_take (i := 17) (v := ?_) rfl (by kernel_rfl) (by kernel_rfl) (by kernel_rfl) (fun _ _ _ h => h) (Or.inl ⟨by rfl, ?_⟩) (by assumption) ?_
              rotate_left
              · (intro w hSw; (try dsimp only at hSw); go_simp; try (with_reducible rfl))
              try simp only [Act.put, List.setIfInBounds_toArray, List.set_cons_zero, List.set_cons_succ, List.getElem_toArray, List.getElem_cons_zero, List.getElem_cons_succ]
              refine wpAnyH_take (i := 18) (v := ?_) rfl (by kernel_rfl) (by kernel_rfl) (by kernel_rfl) (fun _ _ _ h => h) (Or.inl ⟨by rfl, ?_⟩) (by assumption) ?_
              rotate_left
              · (intro w hSw; (try dsimp only at hSw); go_simp; try (with_reducible rfl))
              try simp only [Act.put, List.setIfInBounds_toArray, List.set_cons_zero, List.set_cons_succ, List.getElem_toArray, List.getElem_cons_zero, List.getElem_cons_succ]
              refine wpAnyH_take (i := 19) (v := ?_) rfl (by kernel_rfl) (by kernel_rfl) (by kernel_rfl) (fun _ _ _ h => h) (Or.inl ⟨by rfl, ?_⟩) (by assumption) ?_
              rotate_left
              · (intro w hSw; (try dsimp only at hSw); go_simp; try (with_reducible rfl))
              try simp only [Act.put, List.setIfInBounds_toArray, List.set_cons_zero, List.set_cons_succ, List.getElem_toArray, List.getElem_cons_zero, List.getElem_cons_succ]
              refine wpAnyH_done (by kernel_rfl) ?_ _
              refine NoPanic.normal ?_
              clear hHeld
              go_wp2_with fail
              go_ret
              exact ⟨rfl, by rw [show w.heap.size = N from hN.out]; exact HD8.out.ts.bel⟩
end Go.Proofs.YtbfdgflbflajdaaGreatDoor
