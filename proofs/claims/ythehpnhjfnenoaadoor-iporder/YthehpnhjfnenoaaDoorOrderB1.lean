/-
  The walk of herepathlaw1.IpOrder at three right prefixes, the first two unlike: the way B1.
-/
import Derived.Test.YthehpnhjfnenoaaDoorOrderBase
namespace Go.Proofs.YthehpnhjfnenoaaDoor
open Go.RowKit

set_option linter.unusedSimpArgs false in
set_option maxRecDepth 100000 in
set_option maxHeartbeats 8000000 in
theorem order_B1 (pa pn qa qn sa sn : Int) (et eb es : Addr) (m : Int) (w : World) (h : IpEnv w et eb es m) (hp' : chk pa pn eb es = .nilIface) (hq' : chk qa qn eb es = .nilIface) (hs' : chk sa sn eb es = .nilIface) (hne : ¬ pa = qa)
    (h1 : lessB pa pn qa qn = false) (h2 : lessB qa qn pa pn = true) (h3 : inB pa pn qa qn = false) :
    Calls Tryd.prog 6 #[.agg #[.int .i64 pa, .int .i64 pn], .agg #[.int .i64 qa, .int .i64 qn], .agg #[.int .i64 sa, .int .i64 sn]] w fun e w' => e = .returned (.bool true) ∧ Below w.heap.size w w' := by
  have B0 := bx3_mk w pa pn qa qn sa sn et eb es m h
  clear h
  go_enter Tryd.func6, Tryd.ntmps6
  go_wp2_with (first | (go_at_call 12; refine (addressed_any et eb es m _ (Bx3.env (by assumption))).mono ?_; rintro e wk ⟨rfl, hbk⟩; have Bk := Bx3.below (by assumption) hbk; clear hbk; obtain ⟨p0, p1, q0, q1, s0, s1, -, -⟩ := id Bk) | (go_at_call 13; refine (check_any _ _ et eb es _ (Bx3.errs (by assumption))).mono ?_; rintro e wk ⟨rfl, hbk⟩; have Bk := Bx3.below (by assumption) hbk; clear hbk; obtain ⟨p0, p1, q0, q1, s0, s1, -, -⟩ := id Bk) | (go_at_call 16; refine (less_at _ _ _ _ _ (by assumption) et eb es _ (Bx3.errs (by assumption))).mono ?_; rintro e wk ⟨rfl, hbk⟩; have Bk := Bx3.below (by assumption) hbk; clear hbk; obtain ⟨p0, p1, q0, q1, s0, s1, -, -⟩ := id Bk) | (go_at_call 19; refine (in_at _ _ _ _ _ (by assumption) et eb es _ (Bx3.errs (by assumption))).mono ?_; rintro e wk ⟨rfl, hbk⟩; have Bk := Bx3.below (by assumption) hbk; clear hbk; obtain ⟨p0, p1, q0, q1, s0, s1, -, -⟩ := id Bk))
  refine wp_region_noPanic ?_
  refine wp_region_held_drew (S := (fun w' => w'.cell? ⟨w.heap.size, 0, none⟩ = some (.int .i64 pa) ∧ w'.cell? ⟨w.heap.size, 1, none⟩ = some (.int .i64 pn) ∧ w'.cell? ⟨w.heap.size + 1, 0, none⟩ = some (.int .i64 qa) ∧ w'.cell? ⟨w.heap.size + 1, 1, none⟩ = some (.int .i64 qn) ∧ Bx3 w w' w.heap.size pa pn qa qn sa sn et eb es m)) (by kernel_rfl) ?_ (fun hHeld => ?_)
  · exact ⟨Bk.p0, Bk.p1, Bk.q0, Bk.q1, Bk.drew⟩
  refine wpAnyH_take (i := 0) (v := ?_) rfl (by kernel_rfl) (by kernel_rfl) (by kernel_rfl) (fun _ _ _ h => h) (Or.inl ⟨by rfl, ?_⟩) (by assumption) ?_
  rotate_left
  · (intro w hSw; (try dsimp only at hSw); go_simp; try (with_reducible rfl))
  try simp only [Act.put, List.setIfInBounds_toArray, List.set_cons_zero, List.set_cons_succ, List.getElem_toArray, List.getElem_cons_zero, List.getElem_cons_succ]
  refine wpAnyH_take (i := 1) (v := ?_) rfl (by kernel_rfl) (by kernel_rfl) (by kernel_rfl) (fun _ _ _ h => h) (Or.inl ⟨by rfl, ?_⟩) (by assumption) ?_
  rotate_left
  · (intro w hSw; (try dsimp only at hSw); go_simp; try (with_reducible rfl))
  try simp only [Act.put, List.setIfInBounds_toArray, List.set_cons_zero, List.set_cons_succ, List.getElem_toArray, List.getElem_cons_zero, List.getElem_cons_succ]
  refine wpAnyH_take (i := 3) (v := ?_) rfl (by kernel_rfl) (by kernel_rfl) (by kernel_rfl) (fun _ _ _ h => h) (Or.inl ⟨by rfl, ?_⟩) (by assumption) ?_
  rotate_left
  · (intro w hSw; (try dsimp only at hSw); go_simp; try (with_reducible rfl))
  try simp only [Act.put, List.setIfInBounds_toArray, List.set_cons_zero, List.set_cons_succ, List.getElem_toArray, List.getElem_cons_zero, List.getElem_cons_succ]
  refine wpAnyH_take (i := 4) (v := ?_) rfl (by kernel_rfl) (by kernel_rfl) (by kernel_rfl) (fun _ _ _ h => h) (Or.inl ⟨by rfl, ?_⟩) (by assumption) ?_
  rotate_left
  · (intro w hSw; (try dsimp only at hSw); go_simp; try (with_reducible rfl))
  try simp only [Act.put, List.setIfInBounds_toArray, List.set_cons_zero, List.set_cons_succ, List.getElem_toArray, List.getElem_cons_zero, List.getElem_cons_succ]
  refine wpAnyH_ready (rs := [2]) (by kernel_rfl) (by simp) ?_
  refine AllReadyH.cons rfl (fun K hK => ?_) AllReadyH.nil
  go_simp
  refine (less_at _ _ _ _ _ (by assumption) et eb es _ (held5e hHeld)).mono ?_
  rintro e wn ⟨rfl, hbn⟩
  have Bn := held5b hHeld hbn
  clear hbn hHeld
  refine hK.out _ _ ?_ (fun hHeld => ?_)
  · exact ⟨Bn.p0, Bn.p1, Bn.q0, Bn.q1, Bn⟩
  clear hK K
  try simp only [Act.put, List.setIfInBounds_toArray, List.set_cons_zero, List.set_cons_succ, List.getElem_toArray, List.getElem_cons_zero, List.getElem_cons_succ]
  refine wpAnyH_ready (rs := [5]) (by kernel_rfl) (by simp) ?_
  refine AllReadyH.cons rfl (fun K hK => ?_) AllReadyH.nil
  go_simp
  refine (less_at _ _ _ _ _ (by assumption) et eb es _ (held5e hHeld)).mono ?_
  rintro e wn ⟨rfl, hbn⟩
  have Bn := held5b hHeld hbn
  clear hbn hHeld
  refine hK.out _ _ ?_ (fun hHeld => ?_)
  · exact ⟨Bn.p0, Bn.p1, Bn.q0, Bn.q1, Bn⟩
  clear hK K
  try simp only [Act.put, List.setIfInBounds_toArray, List.set_cons_zero, List.set_cons_succ, List.getElem_toArray, List.getElem_cons_zero, List.getElem_cons_succ]
  refine wpAnyH_take (i := 6) (v := ?_) rfl (by kernel_rfl) (by kernel_rfl) (by kernel_rfl) (fun _ _ _ h => h) (Or.inl ⟨by rfl, ?_⟩) (by assumption) ?_
  rotate_left
  · (intro w hSw; (try dsimp only at hSw); go_simp; try (with_reducible rfl))
  try simp only [Act.put, List.setIfInBounds_toArray, List.set_cons_zero, List.set_cons_succ, List.getElem_toArray, List.getElem_cons_zero, List.getElem_cons_succ]
  refine wpAnyH_take (i := 7) (v := ?_) rfl (by kernel_rfl) (by kernel_rfl) (by kernel_rfl) (fun _ _ _ h => h) (Or.inl ⟨by rfl, ?_⟩) (by assumption) ?_
  rotate_left
  · (intro w hSw; (try dsimp only at hSw); go_simp; try (with_reducible rfl))
  try simp only [Act.put, List.setIfInBounds_toArray, List.set_cons_zero, List.set_cons_succ, List.getElem_toArray, List.getElem_cons_zero, List.getElem_cons_succ]
  refine wpAnyH_take (i := 8) (v := ?_) rfl (by kernel_rfl) (by kernel_rfl) (by kernel_rfl) (fun _ _ _ h => h) (Or.inl ⟨by rfl, ?_⟩) (by assumption) ?_
  rotate_left
  · (intro w hSw; (try dsimp only at hSw); go_simp; try (with_reducible rfl))
  try simp only [Act.put, List.setIfInBounds_toArray, List.set_cons_zero, List.set_cons_succ, List.getElem_toArray, List.getElem_cons_zero, List.getElem_cons_succ]
  refine wpAnyH_take (i := 9) (v := ?_) rfl (by kernel_rfl) (by kernel_rfl) (by kernel_rfl) (fun _ _ _ h => h) (Or.inl ⟨by rfl, ?_⟩) (by assumption) ?_
  rotate_left
  · (intro w hSw; (try dsimp only at hSw); go_simp; try (with_reducible rfl))
  try simp only [Act.put, List.setIfInBounds_toArray, List.set_cons_zero, List.set_cons_succ, List.getElem_toArray, List.getElem_cons_zero, List.getElem_cons_succ]
  refine wpAnyH_ready (rs := [10]) (by kernel_rfl) (by simp) ?_
  refine AllReadyH.cons rfl (fun K hK => ?_) AllReadyH.nil
  go_simp
  refine (in_at _ _ _ _ _ (by assumption) et eb es _ (held5e hHeld)).mono ?_
  rintro e wn ⟨rfl, hbn⟩
  have Bn := held5b hHeld hbn
  clear hbn hHeld
  refine hK.out _ _ ?_ (fun hHeld => ?_)
  · exact ⟨Bn.p0, Bn.p1, Bn.q0, Bn.q1, Bn⟩
  clear hK K
  try simp only [Act.put, List.setIfInBounds_toArray, List.set_cons_zero, List.set_cons_succ, List.getElem_toArray, List.getElem_cons_zero, List.getElem_cons_succ]
  refine wpAnyH_take (i := 11) (v := ?_) rfl (by kernel_rfl) (by kernel_rfl) (by kernel_rfl) (fun _ _ _ h => h) (Or.inl ⟨by rfl, ?_⟩) (by assumption) ?_
  rotate_left
  · (intro w hSw; (try dsimp only at hSw); go_simp; try (with_reducible rfl))
  try simp only [Act.put, List.setIfInBounds_toArray, List.set_cons_zero, List.set_cons_succ, List.getElem_toArray, List.getElem_cons_zero, List.getElem_cons_succ]
  refine wpAnyH_take (i := 12) (v := undef) rfl (by kernel_rfl) (by kernel_rfl) (by kernel_rfl) (fun _ _ _ h => h) (Or.inr ⟨by rfl, rfl⟩) (by assumption) ?_
  try simp only [Act.put, List.setIfInBounds_toArray, List.set_cons_zero, List.set_cons_succ, List.getElem_toArray, List.getElem_cons_zero, List.getElem_cons_succ]
  refine wpAnyH_take (i := 13) (v := undef) rfl (by kernel_rfl) (by kernel_rfl) (by kernel_rfl) (fun _ _ _ h => h) (Or.inr ⟨by rfl, rfl⟩) (by assumption) ?_
  try simp only [Act.put, List.setIfInBounds_toArray, List.set_cons_zero, List.set_cons_succ, List.getElem_toArray, List.getElem_cons_zero, List.getElem_cons_succ]
  refine wpAnyH_take (i := 14) (v := undef) rfl (by kernel_rfl) (by kernel_rfl) (by kernel_rfl) (fun _ _ _ h => h) (Or.inr ⟨by rfl, rfl⟩) (by assumption) ?_
  try simp only [Act.put, List.setIfInBounds_toArray, List.set_cons_zero, List.set_cons_succ, List.getElem_toArray, List.getElem_cons_zero, List.getElem_cons_succ]
  refine wpAnyH_take (i := 15) (v := undef) rfl (by kernel_rfl) (by kernel_rfl) (by kernel_rfl) (fun _ _ _ h => h) (Or.inr ⟨by rfl, rfl⟩) (by assumption) ?_
  try simp only [Act.put, List.setIfInBounds_toArray, List.set_cons_zero, List.set_cons_succ, List.getElem_toArray, List.getElem_cons_zero, List.getElem_cons_succ]
  refine wpAnyH_take (i := 16) (v := ?_) rfl (by kernel_rfl) (by kernel_rfl) (by kernel_rfl) (fun _ _ _ h => h) (Or.inl ⟨by rfl, ?_⟩) (by assumption) ?_
  rotate_left
  · (intro w hSw; (try dsimp only at hSw); go_simp; try (with_reducible rfl))
  try simp only [Act.put, List.setIfInBounds_toArray, List.set_cons_zero, List.set_cons_succ, List.getElem_toArray, List.getElem_cons_zero, List.getElem_cons_succ]
  refine wpAnyH_take (i := 17) (v := ?_) rfl (by kernel_rfl) (by kernel_rfl) (by kernel_rfl) (fun _ _ _ h => h) (Or.inl ⟨by rfl, ?_⟩) (by assumption) ?_
  rotate_left
  · (intro w hSw; (try dsimp only at hSw); go_simp; try (with_reducible rfl))
  try simp only [Act.put, List.setIfInBounds_toArray, List.set_cons_zero, List.set_cons_succ, List.getElem_toArray, List.getElem_cons_zero, List.getElem_cons_succ]
  refine wpAnyH_done (by kernel_rfl) ?_ _
  refine NoPanic.normal ?_
  obtain ⟨p0, p1, q0, q1, s0, s1, -, -⟩ := id Bn
  have Bk := Bn
  go_wp2_with (first | (go_at_call 12; refine (addressed_any et eb es m _ (Bx3.env (by assumption))).mono ?_; rintro e wk ⟨rfl, hbk⟩; have Bk := Bx3.below (by assumption) hbk; clear hbk; obtain ⟨p0, p1, q0, q1, s0, s1, -, -⟩ := id Bk) | (go_at_call 13; refine (check_any _ _ et eb es _ (Bx3.errs (by assumption))).mono ?_; rintro e wk ⟨rfl, hbk⟩; have Bk := Bx3.below (by assumption) hbk; clear hbk; obtain ⟨p0, p1, q0, q1, s0, s1, -, -⟩ := id Bk) | (go_at_call 16; refine (less_at _ _ _ _ _ (by assumption) et eb es _ (Bx3.errs (by assumption))).mono ?_; rintro e wk ⟨rfl, hbk⟩; have Bk := Bx3.below (by assumption) hbk; clear hbk; obtain ⟨p0, p1, q0, q1, s0, s1, -, -⟩ := id Bk) | (go_at_call 19; refine (in_at _ _ _ _ _ (by assumption) et eb es _ (Bx3.errs (by assumption))).mono ?_; rintro e wk ⟨rfl, hbk⟩; have Bk := Bx3.below (by assumption) hbk; clear hbk; obtain ⟨p0, p1, q0, q1, s0, s1, -, -⟩ := id Bk))
  go_ret
  exact ⟨rfl, Bk.hb⟩

set_option linter.unusedSimpArgs false in
set_option maxRecDepth 100000 in
set_option maxHeartbeats 8000000 in
theorem order_B1' (pa pn qn sa sn : Int) (et eb es : Addr) (m : Int) (w : World) (h : IpEnv w et eb es m) (hp' : chk pa pn eb es = .nilIface) (hq' : chk pa qn eb es = .nilIface) (hs' : chk sa sn eb es = .nilIface) (hne : ¬ pn = qn)
    (h1 : lessB pa pn pa qn = false) (h2 : lessB pa qn pa pn = true) (h3 : inB pa pn pa qn = false) :
    Calls Tryd.prog 6 #[.agg #[.int .i64 pa, .int .i64 pn], .agg #[.int .i64 pa, .int .i64 qn], .agg #[.int .i64 sa, .int .i64 sn]] w fun e w' => e = .returned (.bool true) ∧ Below w.heap.size w w' := by
  have B0 := bx3_mk w pa pn pa qn sa sn et eb es m h
  clear h
  go_enter Tryd.func6, Tryd.ntmps6
  go_wp2_with (first | (go_at_call 12; refine (addressed_any et eb es m _ (Bx3.env (by assumption))).mono ?_; rintro e wk ⟨rfl, hbk⟩; have Bk := Bx3.below (by assumption) hbk; clear hbk; obtain ⟨p0, p1, q0, q1, s0, s1, -, -⟩ := id Bk) | (go_at_call 13; refine (check_any _ _ et eb es _ (Bx3.errs (by assumption))).mono ?_; rintro e wk ⟨rfl, hbk⟩; have Bk := Bx3.below (by assumption) hbk; clear hbk; obtain ⟨p0, p1, q0, q1, s0, s1, -, -⟩ := id Bk) | (go_at_call 16; refine (less_at _ _ _ _ _ (by assumption) et eb es _ (Bx3.errs (by assumption))).mono ?_; rintro e wk ⟨rfl, hbk⟩; have Bk := Bx3.below (by assumption) hbk; clear hbk; obtain ⟨p0, p1, q0, q1, s0, s1, -, -⟩ := id Bk) | (go_at_call 19; refine (in_at _ _ _ _ _ (by assumption) et eb es _ (Bx3.errs (by assumption))).mono ?_; rintro e wk ⟨rfl, hbk⟩; have Bk := Bx3.below (by assumption) hbk; clear hbk; obtain ⟨p0, p1, q0, q1, s0, s1, -, -⟩ := id Bk))
  refine wp_region_noPanic ?_
  refine wp_region_held_drew (S := (fun w' => w'.cell? ⟨w.heap.size, 0, none⟩ = some (.int .i64 pa) ∧ w'.cell? ⟨w.heap.size, 1, none⟩ = some (.int .i64 pn) ∧ w'.cell? ⟨w.heap.size + 1, 0, none⟩ = some (.int .i64 pa) ∧ w'.cell? ⟨w.heap.size + 1, 1, none⟩ = some (.int .i64 qn) ∧ Bx3 w w' w.heap.size pa pn pa qn sa sn et eb es m)) (by kernel_rfl) ?_ (fun hHeld => ?_)
  · exact ⟨Bk.p0, Bk.p1, Bk.q0, Bk.q1, Bk.drew⟩
  refine wpAnyH_take (i := 0) (v := ?_) rfl (by kernel_rfl) (by kernel_rfl) (by kernel_rfl) (fun _ _ _ h => h) (Or.inl ⟨by rfl, ?_⟩) (by assumption) ?_
  rotate_left
  · (intro w hSw; (try dsimp only at hSw); go_simp; try (with_reducible rfl))
  try simp only [Act.put, List.setIfInBounds_toArray, List.set_cons_zero, List.set_cons_succ, List.getElem_toArray, List.getElem_cons_zero, List.getElem_cons_succ]
  refine wpAnyH_take (i := 1) (v := ?_) rfl (by kernel_rfl) (by kernel_rfl) (by kernel_rfl) (fun _ _ _ h => h) (Or.inl ⟨by rfl, ?_⟩) (by assumption) ?_
  rotate_left
  · (intro w hSw; (try dsimp only at hSw); go_simp; try (with_reducible rfl))
  try simp only [Act.put, List.setIfInBounds_toArray, List.set_cons_zero, List.set_cons_succ, List.getElem_toArray, List.getElem_cons_zero, List.getElem_cons_succ]
  refine wpAnyH_take (i := 3) (v := ?_) rfl (by kernel_rfl) (by kernel_rfl) (by kernel_rfl) (fun _ _ _ h => h) (Or.inl ⟨by rfl, ?_⟩) (by assumption) ?_
  rotate_left
  · (intro w hSw; (try dsimp only at hSw); go_simp; try (with_reducible rfl))
  try simp only [Act.put, List.setIfInBounds_toArray, List.set_cons_zero, List.set_cons_succ, List.getElem_toArray, List.getElem_cons_zero, List.getElem_cons_succ]
  refine wpAnyH_take (i := 4) (v := ?_) rfl (by kernel_rfl) (by kernel_rfl) (by kernel_rfl) (fun _ _ _ h => h) (Or.inl ⟨by rfl, ?_⟩) (by assumption) ?_
  rotate_left
  · (intro w hSw; (try dsimp only at hSw); go_simp; try (with_reducible rfl))
  try simp only [Act.put, List.setIfInBounds_toArray, List.set_cons_zero, List.set_cons_succ, List.getElem_toArray, List.getElem_cons_zero, List.getElem_cons_succ]
  refine wpAnyH_ready (rs := [2]) (by kernel_rfl) (by simp) ?_
  refine AllReadyH.cons rfl (fun K hK => ?_) AllReadyH.nil
  go_simp
  refine (less_at _ _ _ _ _ (by assumption) et eb es _ (held5e hHeld)).mono ?_
  rintro e wn ⟨rfl, hbn⟩
  have Bn := held5b hHeld hbn
  clear hbn hHeld
  refine hK.out _ _ ?_ (fun hHeld => ?_)
  · exact ⟨Bn.p0, Bn.p1, Bn.q0, Bn.q1, Bn⟩
  clear hK K
  try simp only [Act.put, List.setIfInBounds_toArray, List.set_cons_zero, List.set_cons_succ, List.getElem_toArray, List.getElem_cons_zero, List.getElem_cons_succ]
  refine wpAnyH_ready (rs := [5]) (by kernel_rfl) (by simp) ?_
  refine AllReadyH.cons rfl (fun K hK => ?_) AllReadyH.nil
  go_simp
  refine (less_at _ _ _ _ _ (by assumption) et eb es _ (held5e hHeld)).mono ?_
  rintro e wn ⟨rfl, hbn⟩
  have Bn := held5b hHeld hbn
  clear hbn hHeld
  refine hK.out _ _ ?_ (fun hHeld => ?_)
  · exact ⟨Bn.p0, Bn.p1, Bn.q0, Bn.q1, Bn⟩
  clear hK K
  try simp only [Act.put, List.setIfInBounds_toArray, List.set_cons_zero, List.set_cons_succ, List.getElem_toArray, List.getElem_cons_zero, List.getElem_cons_succ]
  refine wpAnyH_take (i := 6) (v := ?_) rfl (by kernel_rfl) (by kernel_rfl) (by kernel_rfl) (fun _ _ _ h => h) (Or.inl ⟨by rfl, ?_⟩) (by assumption) ?_
  rotate_left
  · (intro w hSw; (try dsimp only at hSw); go_simp; try (with_reducible rfl))
  try simp only [Act.put, List.setIfInBounds_toArray, List.set_cons_zero, List.set_cons_succ, List.getElem_toArray, List.getElem_cons_zero, List.getElem_cons_succ]
  refine wpAnyH_take (i := 7) (v := ?_) rfl (by kernel_rfl) (by kernel_rfl) (by kernel_rfl) (fun _ _ _ h => h) (Or.inl ⟨by rfl, ?_⟩) (by assumption) ?_
  rotate_left
  · (intro w hSw; (try dsimp only at hSw); go_simp; try (with_reducible rfl))
  try simp only [Act.put, List.setIfInBounds_toArray, List.set_cons_zero, List.set_cons_succ, List.getElem_toArray, List.getElem_cons_zero, List.getElem_cons_succ]
  refine wpAnyH_take (i := 8) (v := ?_) rfl (by kernel_rfl) (by kernel_rfl) (by kernel_rfl) (fun _ _ _ h => h) (Or.inl ⟨by rfl, ?_⟩) (by assumption) ?_
  rotate_left
  · (intro w hSw; (try dsimp only at hSw); go_simp; try (with_reducible rfl))
  try simp only [Act.put, List.setIfInBounds_toArray, List.set_cons_zero, List.set_cons_succ, List.getElem_toArray, List.getElem_cons_zero, List.getElem_cons_succ]
  refine wpAnyH_take (i := 9) (v := ?_) rfl (by kernel_rfl) (by kernel_rfl) (by kernel_rfl) (fun _ _ _ h => h) (Or.inl ⟨by rfl, ?_⟩) (by assumption) ?_
  rotate_left
  · (intro w hSw; (try dsimp only at hSw); go_simp; try (with_reducible rfl))
  try simp only [Act.put, List.setIfInBounds_toArray, List.set_cons_zero, List.set_cons_succ, List.getElem_toArray, List.getElem_cons_zero, List.getElem_cons_succ]
  refine wpAnyH_ready (rs := [10]) (by kernel_rfl) (by simp) ?_
  refine AllReadyH.cons rfl (fun K hK => ?_) AllReadyH.nil
  go_simp
  refine (in_at _ _ _ _ _ (by assumption) et eb es _ (held5e hHeld)).mono ?_
  rintro e wn ⟨rfl, hbn⟩
  have Bn := held5b hHeld hbn
  clear hbn hHeld
  refine hK.out _ _ ?_ (fun hHeld => ?_)
  · exact ⟨Bn.p0, Bn.p1, Bn.q0, Bn.q1, Bn⟩
  clear hK K
  try simp only [Act.put, List.setIfInBounds_toArray, List.set_cons_zero, List.set_cons_succ, List.getElem_toArray, List.getElem_cons_zero, List.getElem_cons_succ]
  refine wpAnyH_take (i := 11) (v := ?_) rfl (by kernel_rfl) (by kernel_rfl) (by kernel_rfl) (fun _ _ _ h => h) (Or.inl ⟨by rfl, ?_⟩) (by assumption) ?_
  rotate_left
  · (intro w hSw; (try dsimp only at hSw); go_simp; try (with_reducible rfl))
  try simp only [Act.put, List.setIfInBounds_toArray, List.set_cons_zero, List.set_cons_succ, List.getElem_toArray, List.getElem_cons_zero, List.getElem_cons_succ]
  refine wpAnyH_take (i := 12) (v := undef) rfl (by kernel_rfl) (by kernel_rfl) (by kernel_rfl) (fun _ _ _ h => h) (Or.inr ⟨by rfl, rfl⟩) (by assumption) ?_
  try simp only [Act.put, List.setIfInBounds_toArray, List.set_cons_zero, List.set_cons_succ, List.getElem_toArray, List.getElem_cons_zero, List.getElem_cons_succ]
  refine wpAnyH_take (i := 13) (v := undef) rfl (by kernel_rfl) (by kernel_rfl) (by kernel_rfl) (fun _ _ _ h => h) (Or.inr ⟨by rfl, rfl⟩) (by assumption) ?_
  try simp only [Act.put, List.setIfInBounds_toArray, List.set_cons_zero, List.set_cons_succ, List.getElem_toArray, List.getElem_cons_zero, List.getElem_cons_succ]
  refine wpAnyH_take (i := 14) (v := undef) rfl (by kernel_rfl) (by kernel_rfl) (by kernel_rfl) (fun _ _ _ h => h) (Or.inr ⟨by rfl, rfl⟩) (by assumption) ?_
  try simp only [Act.put, List.setIfInBounds_toArray, List.set_cons_zero, List.set_cons_succ, List.getElem_toArray, List.getElem_cons_zero, List.getElem_cons_succ]
  refine wpAnyH_take (i := 15) (v := undef) rfl (by kernel_rfl) (by kernel_rfl) (by kernel_rfl) (fun _ _ _ h => h) (Or.inr ⟨by rfl, rfl⟩) (by assumption) ?_
  try simp only [Act.put, List.setIfInBounds_toArray, List.set_cons_zero, List.set_cons_succ, List.getElem_toArray, List.getElem_cons_zero, List.getElem_cons_succ]
  refine wpAnyH_take (i := 16) (v := ?_) rfl (by kernel_rfl) (by kernel_rfl) (by kernel_rfl) (fun _ _ _ h => h) (Or.inl ⟨by rfl, ?_⟩) (by assumption) ?_
  rotate_left
  · (intro w hSw; (try dsimp only at hSw); go_simp; try (with_reducible rfl))
  try simp only [Act.put, List.setIfInBounds_toArray, List.set_cons_zero, List.set_cons_succ, List.getElem_toArray, List.getElem_cons_zero, List.getElem_cons_succ]
  refine wpAnyH_take (i := 17) (v := ?_) rfl (by kernel_rfl) (by kernel_rfl) (by kernel_rfl) (fun _ _ _ h => h) (Or.inl ⟨by rfl, ?_⟩) (by assumption) ?_
  rotate_left
  · (intro w hSw; (try dsimp only at hSw); go_simp; try (with_reducible rfl))
  try simp only [Act.put, List.setIfInBounds_toArray, List.set_cons_zero, List.set_cons_succ, List.getElem_toArray, List.getElem_cons_zero, List.getElem_cons_succ]
  refine wpAnyH_done (by kernel_rfl) ?_ _
  refine NoPanic.normal ?_
  obtain ⟨p0, p1, q0, q1, s0, s1, -, -⟩ := id Bn
  have Bk := Bn
  go_wp2_with (first | (go_at_call 12; refine (addressed_any et eb es m _ (Bx3.env (by assumption))).mono ?_; rintro e wk ⟨rfl, hbk⟩; have Bk := Bx3.below (by assumption) hbk; clear hbk; obtain ⟨p0, p1, q0, q1, s0, s1, -, -⟩ := id Bk) | (go_at_call 13; refine (check_any _ _ et eb es _ (Bx3.errs (by assumption))).mono ?_; rintro e wk ⟨rfl, hbk⟩; have Bk := Bx3.below (by assumption) hbk; clear hbk; obtain ⟨p0, p1, q0, q1, s0, s1, -, -⟩ := id Bk) | (go_at_call 16; refine (less_at _ _ _ _ _ (by assumption) et eb es _ (Bx3.errs (by assumption))).mono ?_; rintro e wk ⟨rfl, hbk⟩; have Bk := Bx3.below (by assumption) hbk; clear hbk; obtain ⟨p0, p1, q0, q1, s0, s1, -, -⟩ := id Bk) | (go_at_call 19; refine (in_at _ _ _ _ _ (by assumption) et eb es _ (Bx3.errs (by assumption))).mono ?_; rintro e wk ⟨rfl, hbk⟩; have Bk := Bx3.below (by assumption) hbk; clear hbk; obtain ⟨p0, p1, q0, q1, s0, s1, -, -⟩ := id Bk))
  go_ret
  exact ⟨rfl, Bk.hb⟩

end Go.Proofs.YthehpnhjfnenoaaDoor
