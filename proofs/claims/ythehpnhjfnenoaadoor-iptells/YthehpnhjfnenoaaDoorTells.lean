/-
  The walk of herepathlaw1.IpTells: it returns true, whatever the two prefixes, the text, the address and the number.
-/
import Derived.Test.YthehpnhjfnenoaaDoorTellsBase
namespace Go.Proofs.YthehpnhjfnenoaaDoor
open Go.RowKit

/-- what ReadAddr comes to. -/
theorem ra_t (s : ByteArray) (hs : s.size < 4294967281) (a : Nat → Addr) : ∃ (z : Int) (v : Value) (b : Bool), ((v = .nilIface ∧ b = true) ∨ (v = .iface 72 (.pointer (some (a 0))) ∧ b = false)) ∧
    Hid (∀ (m : Int) (w : World), IpEnv w (a 0) (a 1) (a 2) m → Calls Tryd.prog 23 #[.string s] w fun e w' => e = .returned (.tuple #[.int .i64 z, v]) ∧ Below w.heap.size w w') ∧
    Hid (∀ w : World, Calls Tryd.prog 24 #[.string s] w fun e w' => e = .returned (.tuple #[.int .i64 z, .bool b]) ∧ Below w.heap.size w w') := by
  have hrd : rdAddr s = rd4 (parts 46 [] s.data.toList) := rd4_eq s.data.toList
  cases h : rdAddr s with
  | none =>
    refine ⟨0, _, _, Or.inr ⟨rfl, rfl⟩, fun m w hE => ?_, fun w => ?_⟩
    · have := readAddr_any s (a 0) (a 1) (a 2) m w hE hs
      rw [h] at this
      exact this
    · have := rReadAddr_any s w hs
      rw [← hrd, h] at this
      exact this
  | some z =>
    refine ⟨z, _, _, Or.inl ⟨rfl, rfl⟩, fun m w hE => ?_, fun w => ?_⟩
    · have := readAddr_any s (a 0) (a 1) (a 2) m w hE hs
      rw [h] at this
      exact this
    · have := rReadAddr_any s w hs
      rw [← hrd, h] at this
      exact this
theorem set_cells {W : World} {b : Nat} {x y u v : Value} (h0 : W.cell? ⟨b, 0, none⟩ = some x) (h1 : W.cell? ⟨b, 1, none⟩ = some y) (f0 : W.frozen? ⟨b, 0, none⟩ = false) (f1 : W.frozen? ⟨b, 1, none⟩ = false) :
    ((W.setCell ⟨b, 0, none⟩ u).setCell ⟨b, 1, none⟩ v).cell? ⟨b, 0, none⟩ = some u ∧ ((W.setCell ⟨b, 0, none⟩ u).setCell ⟨b, 1, none⟩ v).cell? ⟨b, 1, none⟩ = some v ∧
    ((W.setCell ⟨b, 0, none⟩ u).setCell ⟨b, 1, none⟩ v).frozen? ⟨b, 0, none⟩ = false ∧ ((W.setCell ⟨b, 0, none⟩ u).setCell ⟨b, 1, none⟩ v).frozen? ⟨b, 1, none⟩ = false := by
  refine ⟨?_, ?_, by simpa using f0, by simpa using f1⟩
  · have e : ((W.setCell ⟨b, 0, none⟩ u).setCell ⟨b, 1, none⟩ v).cell? ⟨b, 0, none⟩ = (W.setCell ⟨b, 0, none⟩ u).cell? ⟨b, 0, none⟩ := by apply World.cell?_setCell_other; simp
    rw [e]
    apply World.cell?_setCell_same
    exact h0
  · have e : (W.setCell ⟨b, 0, none⟩ u).cell? ⟨b, 1, none⟩ = W.cell? ⟨b, 1, none⟩ := by apply World.cell?_setCell_other; simp
    apply World.cell?_setCell_same (u := y)
    rw [e]
    exact h1
theorem far_cells {W : World} {b c : Nat} (hne : c ≠ b) {x y u v : Value} (h0 : W.cell? ⟨c, 0, none⟩ = some x) (h1 : W.cell? ⟨c, 1, none⟩ = some y) (f0 : W.frozen? ⟨c, 0, none⟩ = false) (f1 : W.frozen? ⟨c, 1, none⟩ = false) :
    ((W.setCell ⟨b, 0, none⟩ u).setCell ⟨b, 1, none⟩ v).cell? ⟨c, 0, none⟩ = some x ∧ ((W.setCell ⟨b, 0, none⟩ u).setCell ⟨b, 1, none⟩ v).cell? ⟨c, 1, none⟩ = some y ∧
    ((W.setCell ⟨b, 0, none⟩ u).setCell ⟨b, 1, none⟩ v).frozen? ⟨c, 0, none⟩ = false ∧ ((W.setCell ⟨b, 0, none⟩ u).setCell ⟨b, 1, none⟩ v).frozen? ⟨c, 1, none⟩ = false :=
  ⟨setCell_kept h0 hne _ _, setCell_kept h1 hne _ _, by simpa using f0, by simpa using f1⟩
theorem box_frozen (W : World) (x y : Value) (t : TypeId) : (W.alloc (.cells #[x, y] t)).frozen? ⟨W.heap.size, 0, none⟩ = false ∧ (W.alloc (.cells #[x, y] t)).frozen? ⟨W.heap.size, 1, none⟩ = false := by
  constructor <;> rw [World.frozen?_alloc_at _ _ _ _ rfl]

set_option linter.unusedSimpArgs false in
set_option linter.unusedVariables false in
set_option maxRecDepth 100000 in
set_option maxHeartbeats 16000000 in
/-- a text of more than sixty bytes: the law says nothing. -/
theorem tells_long (pa pn qa qn : Int) (s : ByteArray) (x n : Int) (a : Nat → Addr) (m : Int) (w : World) (A : TwAll w a m) (h60 : 60 < s.size) :
    Calls Tryd.prog 5 #[.agg #[.int .i64 pa, .int .i64 pn], .agg #[.int .i64 qa, .int .i64 qn], .string s, .int .i64 x, .int .i64 n] w fun e w' => e = .returned (.bool true) ∧ Below w.heap.size w w' := by
  have hd : decide (60 < (s.size : Int)) = true := decide_eq_true (by omega)
  have B0 := tw_mk w pa pn qa qn
  go_enter Tryd.func5, Tryd.ntmps5
  go_wp2_with fail
  refine (addressed_any (a 0) (a 1) (a 2) m _ (B0.env A)).mono ?_
  rintro e w1 ⟨rfl, hb1⟩
  have B1 := B0.below hb1
  go_wp2_with fail
  go_ret
  exact ⟨rfl, B1.hb⟩

set_option linter.unusedSimpArgs false in
set_option linter.unusedVariables false in
set_option maxRecDepth 100000 in
set_option maxHeartbeats 16000000 in
theorem tells_short (pa pn qa qn : Int) (s : ByteArray) (x n : Int) (a : Nat → Addr) (m : Int) (w : World) (A : TwAll w a m) (h60 : s.size ≤ 60) :
    Calls Tryd.prog 5 #[.agg #[.int .i64 pa, .int .i64 pn], .agg #[.int .i64 qa, .int .i64 qn], .string s, .int .i64 x, .int .i64 n] w fun e w' => e = .returned (.bool true) ∧ Below w.heap.size w w' := by
  have hd : decide (60 < (s.size : Int)) = false := decide_eq_false (by omega)
  have hs : s.size < 4294967281 := by omega
  have B0 := tw_mk w pa pn qa qn
  obtain ⟨z, v, b, hor, HRA, HRR⟩ := ra_t s hs a
  obtain ⟨t, ht⟩ : ∃ t, Hid (txtA x = t) := ⟨_, show _ = _ from rfl⟩
  go_enter Tryd.func5, Tryd.ntmps5
  go_wp2_with fail
  refine (addressed_any (a 0) (a 1) (a 2) m _ (B0.env A)).mono ?_
  rintro e w1 ⟨rfl, hbk⟩
  have B1 := B0.below hbk
  clear hbk
  obtain ⟨p0, p1, q0, q1, -⟩ := id B1
  go_wp2_with fail
  refine (HRA.out m _ (B1.env A)).mono ?_
  rintro e w2 ⟨rfl, hbk⟩
  have B2 := B1.below hbk
  clear hbk
  obtain ⟨p0, p1, q0, q1, -⟩ := id B2
  go_wp2_with fail
  refine (HRR.out _).mono ?_
  rintro e w3 ⟨rfl, hbk⟩
  have B3 := B2.below hbk
  clear hbk
  obtain ⟨p0, p1, q0, q1, -⟩ := id B3
  go_upto_region 6 with fail
  go_cut [66] from 23 (fun c w' => c = .bool false ∧ Tw w w' pa pn qa qn)
  case first =>
    as_aux_lemma =>
    rcases hor with ⟨rfl, rfl⟩ | ⟨rfl, rfl⟩
    · go_wp2_with fail
      refine (addrText_t x t ht (a 0) (a 1) (a 2) m _ (B3.env A)).mono ?_
      rintro e v5 ⟨rfl, hbk⟩
      have C5 := B3.below hbk
      clear hbk
      obtain ⟨p0, p1, q0, q1, -⟩ := id C5
      go_wp2_with fail
      refine (rAddrText_t x t ht _).mono ?_
      rintro e v6 ⟨rfl, hbk⟩
      have C6 := C5.below hbk
      clear hbk
      obtain ⟨p0, p1, q0, q1, -⟩ := id C6
      go_wp2_with fail
      go_meet
      exact ⟨rfl, C6⟩
    · go_wp2_with fail
      refine (coded_at a _ 1 (show isErr a _ 1 from ⟨1, by omega, rfl, rfl⟩) _ (B3.laid A)).mono ?_
      rintro e v4 ⟨rfl, hbk⟩
      have C4 := B3.below hbk
      clear hbk
      obtain ⟨p0, p1, q0, q1, -⟩ := id C4
      go_wp2_with fail
      refine (addrText_t x t ht (a 0) (a 1) (a 2) m _ (C4.env A)).mono ?_
      rintro e v5 ⟨rfl, hbk⟩
      have C5 := C4.below hbk
      clear hbk
      obtain ⟨p0, p1, q0, q1, -⟩ := id C5
      go_wp2_with fail
      refine (rAddrText_t x t ht _).mono ?_
      rintro e v6 ⟨rfl, hbk⟩
      have C6 := C5.below hbk
      clear hbk
      obtain ⟨p0, p1, q0, q1, -⟩ := id C6
      go_wp2_with fail
      go_meet
      exact ⟨rfl, C6⟩
  case rest =>
  as_aux_lemma =>
  obtain ⟨rfl, B4⟩ := hcut
  clear hor HRA HRR B3 B2 B1 B0
  obtain ⟨p0, p1, q0, q1, -⟩ := id B4
  have hrp : rdP s = rdR (parts 47 [] s.data.toList) := rdP_rdR s.data.toList
  have hle := rdR_le (parts 47 [] s.data.toList)
  obtain ⟨x1, x2, k, hR⟩ : ∃ x1 x2 k, Hid (rdR (parts 47 [] s.data.toList) = (x1, x2, k)) := ⟨_, _, _, show _ = _ from rfl⟩
  obtain ⟨v1, hv1⟩ : ∃ v1, Hid (errV (a 0) (a 1) (a 2) k = v1) := ⟨_, show _ = _ from rfl⟩
  have HV : Hid (rdP s = (x1, x2, (rdP s).2.2) ∧ errV (a 0) (a 1) (a 2) (rdP s).2.2 = v1) := by
    rw [hrp, show rdR (parts 47 [] s.data.toList) = (x1, x2, k) from hR.out]
    exact ⟨rfl, hv1.out⟩
  obtain ⟨k1, hk1⟩ : ∃ k1 : Int, Hid ((k : Int) = k1) := ⟨_, show _ = _ from rfl⟩
  have HE1 : Hid (isErr a v1 k1) := ⟨k, by rw [show rdR (parts 47 [] s.data.toList) = (x1, x2, k) from hR.out] at hle; exact hle, hv1.out.symm, hk1.out.symm⟩
  have HRP : Hid (∀ w : World, Calls Tryd.prog 27 #[.string s] w fun e w' => e = .returned (.tuple #[.agg #[.int .i64 x1, .int .i64 x2], .int .i64 k1]) ∧ Below w.heap.size w w') := fun w => by
    rw [← hk1.out]
    exact rReadPrefix_any s x1 x2 k w hs hR
  clear hrp hle hR hv1 hk1
  go_wp2_with fail
  refine (read_t s x1 x2 v1 (a 0) (a 1) (a 2) m _ (B4.env A) hs HV).mono ?_
  rintro e w5 ⟨rfl, hbk⟩
  have B5 := B4.below hbk
  clear hbk
  obtain ⟨p0, p1, q0, q1, -⟩ := id B5
  have B5 := B5.alloc (.cells #[.int .i64 x1, .int .i64 x2] 36)
  obtain ⟨y0, y1⟩ := box_at w5 (.int .i64 x1) (.int .i64 x2) 36
  obtain ⟨fy0, fy1⟩ := box_frozen w5 (.int .i64 x1) (.int .i64 x2) 36
  have hb16 : w.heap.size + 1 < w5.heap.size := by
    have h1 := cell_lt' q1
    simpa using h1
  obtain ⟨p0, p1, q0, q1, -⟩ := id B5
  go_wp2_with fail
  refine (HRP.out _).mono ?_
  rintro e w6 ⟨rfl, hbk⟩
  have B6 := B5.below hbk
  obtain ⟨y0, y1, fy0, fy1⟩ := box_cells hbk y0 y1 fy0 fy1
  clear hbk
  obtain ⟨p0, p1, q0, q1, -⟩ := id B6
  have B6 := B6.alloc (.cells #[.int .i64 x1, .int .i64 x2] 36)
  obtain ⟨z0, z1⟩ := box_at w6 (.int .i64 x1) (.int .i64 x2) 36
  obtain ⟨fz0, fz1⟩ := box_frozen w6 (.int .i64 x1) (.int .i64 x2) 36
  have hb17 : w5.heap.size < w6.heap.size := by
    have h1 := cell_lt' y1
    simpa using h1
  obtain ⟨y0, y1, fy0, fy1⟩ := box_cells (below_alloc w6 (.cells #[.int .i64 x1, .int .i64 x2] 36)) y0 y1 fy0 fy1
  obtain ⟨p0, p1, q0, q1, -⟩ := id B6
  obtain ⟨u, hu⟩ : ∃ u, Hid (chk pa pn (a 1) (a 2) = u) := ⟨_, show _ = _ from rfl⟩
  obtain ⟨kp, hkp⟩ : ∃ kp : Int, Hid ((chkC pa pn : Int) = kp) := ⟨_, show _ = _ from rfl⟩
  have HE2 : Hid (isErr a u kp) := ⟨chkC pa pn, chkC_le pa pn, by rw [← hu.out, chk_errV pa pn (a 0) (a 1) (a 2)], hkp.out.symm⟩
  obtain ⟨t2, ht2⟩ : ∃ t, Hid (txtQ pa pn = t) := ⟨_, show _ = _ from rfl⟩
  go_upto_region 10 with fail
  go_cut [100] from 23 (fun c w' => c = .bool false ∧ w'.cell? ⟨w5.heap.size, 0, none⟩ = some (.int .i64 x1) ∧ w'.cell? ⟨w5.heap.size, 1, none⟩ = some (.int .i64 x2) ∧ w'.frozen? ⟨w5.heap.size, 0, none⟩ = false ∧ w'.frozen? ⟨w5.heap.size, 1, none⟩ = false ∧ w'.cell? ⟨w6.heap.size, 0, none⟩ = some (.int .i64 x1) ∧ w'.cell? ⟨w6.heap.size, 1, none⟩ = some (.int .i64 x2) ∧ w'.frozen? ⟨w6.heap.size, 0, none⟩ = false ∧ w'.frozen? ⟨w6.heap.size, 1, none⟩ = false ∧ Tw w w' pa pn qa qn)
  case first =>
    as_aux_lemma =>
    refine wp_region_noPanic ?_
    refine wp_region_held_drew (S := (fun w' => w'.cell? ⟨w.heap.size, 0, none⟩ = some (.int .i64 pa) ∧ w'.cell? ⟨w.heap.size, 1, none⟩ = some (.int .i64 pn) ∧ w'.cell? ⟨w5.heap.size, 0, none⟩ = some (.int .i64 x1) ∧ w'.cell? ⟨w5.heap.size, 1, none⟩ = some (.int .i64 x2) ∧ w'.cell? ⟨w6.heap.size, 0, none⟩ = some (.int .i64 x1) ∧ w'.cell? ⟨w6.heap.size, 1, none⟩ = some (.int .i64 x2) ∧ Below (w6.alloc (.cells #[.int .i64 x1, .int .i64 x2] 36)).heap.size (w6.alloc (.cells #[.int .i64 x1, .int .i64 x2] 36)) w')) (by kernel_rfl) ?_ (fun hHeld => ?_)
    · exact ⟨p0, p1, y0, y1, z0, z1, (Below.refl _ _).drew⟩
    refine wpAnyH_take (i := 0) (v := ?_) rfl (by kernel_rfl) (by kernel_rfl) (by kernel_rfl) (fun _ _ _ h => h) (Or.inl ⟨by rfl, ?_⟩) (by assumption) ?_
    rotate_left
    · (intro w hSw; (try dsimp only at hSw); go_simp; try (with_reducible rfl))
    try simp only [Act.put, List.setIfInBounds_toArray, List.set_cons_zero, List.set_cons_succ, List.getElem_toArray, List.getElem_cons_zero, List.getElem_cons_succ]
    refine wpAnyH_take (i := 1) (v := ?_) rfl (by kernel_rfl) (by kernel_rfl) (by kernel_rfl) (fun _ _ _ h => h) (Or.inl ⟨by rfl, ?_⟩) (by assumption) ?_
    rotate_left
    · (intro w hSw; (try dsimp only at hSw); go_simp; try (with_reducible rfl))
    try simp only [Act.put, List.setIfInBounds_toArray, List.set_cons_zero, List.set_cons_succ, List.getElem_toArray, List.getElem_cons_zero, List.getElem_cons_succ]
    refine wpAnyH_ready (rs := [2]) (by kernel_rfl) (by simp) ?_
    refine AllReadyH.cons rfl (fun K hK => ?_) AllReadyH.nil
    go_simp
    refine (coded_at a v1 k1 HE1 _ ((B6.below hHeld.2.2.2.2.2.2).laid A)).mono ?_
    rintro e wn ⟨rfl, hbn⟩
    have hKeep := And.intro (cell_kept hbn hHeld.1) (And.intro (cell_kept hbn hHeld.2.1) (And.intro (cell_kept hbn hHeld.2.2.1) (And.intro (cell_kept hbn hHeld.2.2.2.1) (And.intro (cell_kept hbn hHeld.2.2.2.2.1) (And.intro (cell_kept hbn hHeld.2.2.2.2.2.1) (hHeld.2.2.2.2.2.2.trans (hbn.mono hHeld.2.2.2.2.2.2.size)))))))
    clear hbn hHeld
    refine hK.out _ _ ?_ (fun hHeld => ?_)
    · exact hKeep
    clear hK K hKeep
    try simp only [Act.put, List.setIfInBounds_toArray, List.set_cons_zero, List.set_cons_succ, List.getElem_toArray, List.getElem_cons_zero, List.getElem_cons_succ]
    refine wpAnyH_take (i := 3) (v := ?_) rfl (by kernel_rfl) (by kernel_rfl) (by kernel_rfl) (fun _ _ _ h => h) (Or.inl ⟨by rfl, ?_⟩) (by assumption) ?_
    rotate_left
    · (intro w hSw; (try dsimp only at hSw); go_simp; try (with_reducible rfl))
    try simp only [Act.put, List.setIfInBounds_toArray, List.set_cons_zero, List.set_cons_succ, List.getElem_toArray, List.getElem_cons_zero, List.getElem_cons_succ]
    refine wpAnyH_take (i := 4) (v := ?_) rfl (by kernel_rfl) (by kernel_rfl) (by kernel_rfl) (fun _ _ _ h => h) (Or.inl ⟨by rfl, ?_⟩) (by assumption) ?_
    rotate_left
    · (intro w hSw; (try dsimp only at hSw); go_simp; try (with_reducible rfl))
    try simp only [Act.put, List.setIfInBounds_toArray, List.set_cons_zero, List.set_cons_succ, List.getElem_toArray, List.getElem_cons_zero, List.getElem_cons_succ]
    refine wpAnyH_take (i := 5) (v := ?_) rfl (by kernel_rfl) (by kernel_rfl) (by kernel_rfl) (fun _ _ _ h => h) (Or.inl ⟨by rfl, ?_⟩) (by assumption) ?_
    rotate_left
    · (intro w hSw; (try dsimp only at hSw); go_simp; try (with_reducible rfl))
    try simp only [Act.put, List.setIfInBounds_toArray, List.set_cons_zero, List.set_cons_succ, List.getElem_toArray, List.getElem_cons_zero, List.getElem_cons_succ]
    refine wpAnyH_take (i := 6) (v := ?_) rfl (by kernel_rfl) (by kernel_rfl) (by kernel_rfl) (fun _ _ _ h => h) (Or.inl ⟨by rfl, ?_⟩) (by assumption) ?_
    rotate_left
    · (intro w hSw; (try dsimp only at hSw); go_simp; try (with_reducible rfl))
    try simp only [Act.put, List.setIfInBounds_toArray, List.set_cons_zero, List.set_cons_succ, List.getElem_toArray, List.getElem_cons_zero, List.getElem_cons_succ]
    refine wpAnyH_take (i := 7) (v := ?_) rfl (by kernel_rfl) (by kernel_rfl) (by kernel_rfl) (fun _ _ _ h => h) (Or.inl ⟨by rfl, ?_⟩) (by assumption) ?_
    rotate_left
    · (intro w hSw; (try dsimp only at hSw); go_simp; try (with_reducible rfl))
    try simp only [Act.put, List.setIfInBounds_toArray, List.set_cons_zero, List.set_cons_succ, List.getElem_toArray, List.getElem_cons_zero, List.getElem_cons_succ]
    refine wpAnyH_take (i := 8) (v := ?_) rfl (by kernel_rfl) (by kernel_rfl) (by kernel_rfl) (fun _ _ _ h => h) (Or.inl ⟨by rfl, ?_⟩) (by assumption) ?_
    rotate_left
    · (intro w hSw; (try dsimp only at hSw); go_simp; try (with_reducible rfl))
    try simp only [Act.put, List.setIfInBounds_toArray, List.set_cons_zero, List.set_cons_succ, List.getElem_toArray, List.getElem_cons_zero, List.getElem_cons_succ]
    refine wpAnyH_take (i := 9) (v := ?_) rfl (by kernel_rfl) (by kernel_rfl) (by kernel_rfl) (fun _ _ _ h => h) (Or.inl ⟨by rfl, ?_⟩) (by assumption) ?_
    rotate_left
    · (intro w hSw; (try dsimp only at hSw); go_simp; try (with_reducible rfl))
    try simp only [Act.put, List.setIfInBounds_toArray, List.set_cons_zero, List.set_cons_succ, List.getElem_toArray, List.getElem_cons_zero, List.getElem_cons_succ]
    refine wpAnyH_take (i := 10) (v := ?_) rfl (by kernel_rfl) (by kernel_rfl) (by kernel_rfl) (fun _ _ _ h => h) (Or.inl ⟨by rfl, ?_⟩) (by assumption) ?_
    rotate_left
    · (intro w hSw; (try dsimp only at hSw); go_simp; try (with_reducible rfl))
    try simp only [Act.put, List.setIfInBounds_toArray, List.set_cons_zero, List.set_cons_succ, List.getElem_toArray, List.getElem_cons_zero, List.getElem_cons_succ]
    refine wpAnyH_take (i := 12) (v := ?_) rfl (by kernel_rfl) (by kernel_rfl) (by kernel_rfl) (fun _ _ _ h => h) (Or.inl ⟨by rfl, ?_⟩) (by assumption) ?_
    rotate_left
    · (intro w hSw; (try dsimp only at hSw); go_simp; try (with_reducible rfl))
    try simp only [Act.put, List.setIfInBounds_toArray, List.set_cons_zero, List.set_cons_succ, List.getElem_toArray, List.getElem_cons_zero, List.getElem_cons_succ]
    refine wpAnyH_ready (rs := [11]) (by kernel_rfl) (by simp) ?_
    refine AllReadyH.cons rfl (fun K hK => ?_) AllReadyH.nil
    go_simp
    refine (check_t pa pn u (a 0) (a 1) (a 2) hu _ ((B6.below hHeld.2.2.2.2.2.2).env A).errs).mono ?_
    rintro e wn ⟨rfl, hbn⟩
    have hKeep := And.intro (cell_kept hbn hHeld.1) (And.intro (cell_kept hbn hHeld.2.1) (And.intro (cell_kept hbn hHeld.2.2.1) (And.intro (cell_kept hbn hHeld.2.2.2.1) (And.intro (cell_kept hbn hHeld.2.2.2.2.1) (And.intro (cell_kept hbn hHeld.2.2.2.2.2.1) (hHeld.2.2.2.2.2.2.trans (hbn.mono hHeld.2.2.2.2.2.2.size)))))))
    clear hbn hHeld
    refine hK.out _ _ ?_ (fun hHeld => ?_)
    · exact hKeep
    clear hK K hKeep
    try simp only [Act.put, List.setIfInBounds_toArray, List.set_cons_zero, List.set_cons_succ, List.getElem_toArray, List.getElem_cons_zero, List.getElem_cons_succ]
    refine wpAnyH_ready (rs := [13]) (by kernel_rfl) (by simp) ?_
    refine AllReadyH.cons rfl (fun K hK => ?_) AllReadyH.nil
    go_simp
    refine (rPrefixError_at pa pn kp hkp _).mono ?_
    rintro e wn ⟨rfl, hbn⟩
    have hKeep := And.intro (cell_kept hbn hHeld.1) (And.intro (cell_kept hbn hHeld.2.1) (And.intro (cell_kept hbn hHeld.2.2.1) (And.intro (cell_kept hbn hHeld.2.2.2.1) (And.intro (cell_kept hbn hHeld.2.2.2.2.1) (And.intro (cell_kept hbn hHeld.2.2.2.2.2.1) (hHeld.2.2.2.2.2.2.trans (hbn.mono hHeld.2.2.2.2.2.2.size)))))))
    clear hbn hHeld
    refine hK.out _ _ ?_ (fun hHeld => ?_)
    · exact hKeep
    clear hK K hKeep
    try simp only [Act.put, List.setIfInBounds_toArray, List.set_cons_zero, List.set_cons_succ, List.getElem_toArray, List.getElem_cons_zero, List.getElem_cons_succ]
    refine wpAnyH_ready (rs := [14]) (by kernel_rfl) (by simp) ?_
    refine AllReadyH.cons rfl (fun K hK => ?_) AllReadyH.nil
    go_simp
    refine (coded_at a u kp HE2 _ ((B6.below hHeld.2.2.2.2.2.2).laid A)).mono ?_
    rintro e wn ⟨rfl, hbn⟩
    have hKeep := And.intro (cell_kept hbn hHeld.1) (And.intro (cell_kept hbn hHeld.2.1) (And.intro (cell_kept hbn hHeld.2.2.1) (And.intro (cell_kept hbn hHeld.2.2.2.1) (And.intro (cell_kept hbn hHeld.2.2.2.2.1) (And.intro (cell_kept hbn hHeld.2.2.2.2.2.1) (hHeld.2.2.2.2.2.2.trans (hbn.mono hHeld.2.2.2.2.2.2.size)))))))
    clear hbn hHeld
    refine hK.out _ _ ?_ (fun hHeld => ?_)
    · exact hKeep
    clear hK K hKeep
    try simp only [Act.put, List.setIfInBounds_toArray, List.set_cons_zero, List.set_cons_succ, List.getElem_toArray, List.getElem_cons_zero, List.getElem_cons_succ]
    refine wpAnyH_take (i := 15) (v := ?_) rfl (by kernel_rfl) (by kernel_rfl) (by kernel_rfl) (fun _ _ _ h => h) (Or.inl ⟨by rfl, ?_⟩) (by assumption) ?_
    rotate_left
    · (intro w hSw; (try dsimp only at hSw); go_simp; try (with_reducible rfl))
    try simp only [Act.put, List.setIfInBounds_toArray, List.set_cons_zero, List.set_cons_succ, List.getElem_toArray, List.getElem_cons_zero, List.getElem_cons_succ]
    refine wpAnyH_take (i := 16) (v := ?_) rfl (by kernel_rfl) (by kernel_rfl) (by kernel_rfl) (fun _ _ _ h => h) (Or.inl ⟨by rfl, ?_⟩) (by assumption) ?_
    rotate_left
    · (intro w hSw; (try dsimp only at hSw); go_simp; try (with_reducible rfl))
    try simp only [Act.put, List.setIfInBounds_toArray, List.set_cons_zero, List.set_cons_succ, List.getElem_toArray, List.getElem_cons_zero, List.getElem_cons_succ]
    refine wpAnyH_take (i := 17) (v := ?_) rfl (by kernel_rfl) (by kernel_rfl) (by kernel_rfl) (fun _ _ _ h => h) (Or.inl ⟨by rfl, ?_⟩) (by assumption) ?_
    rotate_left
    · (intro w hSw; (try dsimp only at hSw); go_simp; try (with_reducible rfl))
    try simp only [Act.put, List.setIfInBounds_toArray, List.set_cons_zero, List.set_cons_succ, List.getElem_toArray, List.getElem_cons_zero, List.getElem_cons_succ]
    refine wpAnyH_take (i := 18) (v := ?_) rfl (by kernel_rfl) (by kernel_rfl) (by kernel_rfl) (fun _ _ _ h => h) (Or.inl ⟨by rfl, ?_⟩) (by assumption) ?_
    rotate_left
    · (intro w hSw; (try dsimp only at hSw); go_simp; try (with_reducible rfl))
    try simp only [Act.put, List.setIfInBounds_toArray, List.set_cons_zero, List.set_cons_succ, List.getElem_toArray, List.getElem_cons_zero, List.getElem_cons_succ]
    refine wpAnyH_take (i := 20) (v := ?_) rfl (by kernel_rfl) (by kernel_rfl) (by kernel_rfl) (fun _ _ _ h => h) (Or.inl ⟨by rfl, ?_⟩) (by assumption) ?_
    rotate_left
    · (intro w hSw; (try dsimp only at hSw); go_simp; try (with_reducible rfl))
    try simp only [Act.put, List.setIfInBounds_toArray, List.set_cons_zero, List.set_cons_succ, List.getElem_toArray, List.getElem_cons_zero, List.getElem_cons_succ]
    refine wpAnyH_ready (rs := [19]) (by kernel_rfl) (by simp) ?_
    refine AllReadyH.cons rfl (fun K hK => ?_) AllReadyH.nil
    go_simp
    refine (text_t pa pn t2 ht2 (a 0) (a 1) (a 2) m _ ((B6.below hHeld.2.2.2.2.2.2).env A)).mono ?_
    rintro e wn ⟨rfl, hbn⟩
    have hKeep := And.intro (cell_kept hbn hHeld.1) (And.intro (cell_kept hbn hHeld.2.1) (And.intro (cell_kept hbn hHeld.2.2.1) (And.intro (cell_kept hbn hHeld.2.2.2.1) (And.intro (cell_kept hbn hHeld.2.2.2.2.1) (And.intro (cell_kept hbn hHeld.2.2.2.2.2.1) (hHeld.2.2.2.2.2.2.trans (hbn.mono hHeld.2.2.2.2.2.2.size)))))))
    clear hbn hHeld
    refine hK.out _ _ ?_ (fun hHeld => ?_)
    · exact hKeep
    clear hK K hKeep
    try simp only [Act.put, List.setIfInBounds_toArray, List.set_cons_zero, List.set_cons_succ, List.getElem_toArray, List.getElem_cons_zero, List.getElem_cons_succ]
    refine wpAnyH_ready (rs := [21]) (by kernel_rfl) (by simp) ?_
    refine AllReadyH.cons rfl (fun K hK => ?_) AllReadyH.nil
    go_simp
    refine (rPrefixText_t pa pn t2 ht2 _).mono ?_
    rintro e wn ⟨rfl, hbn⟩
    have hKeep := And.intro (cell_kept hbn hHeld.1) (And.intro (cell_kept hbn hHeld.2.1) (And.intro (cell_kept hbn hHeld.2.2.1) (And.intro (cell_kept hbn hHeld.2.2.2.1) (And.intro (cell_kept hbn hHeld.2.2.2.2.1) (And.intro (cell_kept hbn hHeld.2.2.2.2.2.1) (hHeld.2.2.2.2.2.2.trans (hbn.mono hHeld.2.2.2.2.2.2.size)))))))
    clear hbn hHeld
    refine hK.out _ _ ?_ (fun hHeld => ?_)
    · exact hKeep
    clear hK K hKeep
    try simp only [Act.put, List.setIfInBounds_toArray, List.set_cons_zero, List.set_cons_succ, List.getElem_toArray, List.getElem_cons_zero, List.getElem_cons_succ]
    refine wpAnyH_take (i := 22) (v := ?_) rfl (by kernel_rfl) (by kernel_rfl) (by kernel_rfl) (fun _ _ _ h => h) (Or.inl ⟨by rfl, ?_⟩) (by assumption) ?_
    rotate_left
    · (intro w hSw; (try dsimp only at hSw); go_simp; try (with_reducible rfl))
    try simp only [Act.put, List.setIfInBounds_toArray, List.set_cons_zero, List.set_cons_succ, List.getElem_toArray, List.getElem_cons_zero, List.getElem_cons_succ]
    refine wpAnyH_take (i := 23) (v := ?_) rfl (by kernel_rfl) (by kernel_rfl) (by kernel_rfl) (fun _ _ _ h => h) (Or.inl ⟨by rfl, ?_⟩) (by assumption) ?_
    rotate_left
    · (intro w hSw; (try dsimp only at hSw); go_simp; try (with_reducible rfl))
    try simp only [Act.put, List.setIfInBounds_toArray, List.set_cons_zero, List.set_cons_succ, List.getElem_toArray, List.getElem_cons_zero, List.getElem_cons_succ]
    refine wpAnyH_done (by kernel_rfl) ?_ _
    refine NoPanic.normal ?_
    go_wp2_with fail
    go_meet
    obtain ⟨y0, y1, fy0, fy1⟩ := box_cells hHeld.2.2.2.2.2.2 y0 y1 fy0 fy1
    obtain ⟨z0, z1, fz0, fz1⟩ := box_cells hHeld.2.2.2.2.2.2 z0 z1 fz0 fz1
    exact ⟨rfl, y0, y1, fy0, fy1, z0, z1, fz0, fz1, B6.below hHeld.2.2.2.2.2.2⟩
  case rest =>
  as_aux_lemma =>
  clear y0 y1 fy0 fy1 z0 z1 fz0 fz1 B6 B5 B4
  obtain ⟨rfl, y0, y1, fy0, fy1, z0, z1, fz0, fz1, B7⟩ := hcut
  obtain ⟨p0, p1, q0, q1, -⟩ := id B7
  obtain ⟨ca, cn, v2, k2, HE3, HC1, HC2⟩ := cut_t x n a
  go_wp2_with fail
  refine (HC1.out _ (B7.env A).errs).mono ?_
  rintro e w8 ⟨rfl, hbk⟩
  have B8 := B7.below hbk
  obtain ⟨y0, y1, fy0, fy1⟩ := box_cells hbk y0 y1 fy0 fy1
  obtain ⟨z0, z1, fz0, fz1⟩ := box_cells hbk z0 z1 fz0 fz1
  clear hbk
  obtain ⟨p0, p1, q0, q1, -⟩ := id B8
  have B8 := B8.set (b := w5.heap.size) (by omega) (.int .i64 ca) (.int .i64 cn)
  obtain ⟨y0', y1', fy0', fy1'⟩ := set_cells (u := .int .i64 ca) (v := .int .i64 cn) y0 y1 fy0 fy1
  obtain ⟨z0', z1', fz0', fz1'⟩ := far_cells (b := w5.heap.size) (u := .int .i64 ca) (v := .int .i64 cn) (show w6.heap.size ≠ w5.heap.size by omega) z0 z1 fz0 fz1
  go_wp2_with fail
  refine (HC2.out _).mono ?_
  rintro e w9 ⟨rfl, hbk⟩
  have B9 := B8.below hbk
  obtain ⟨y0, y1, fy0, fy1⟩ := box_cells hbk y0' y1' fy0' fy1'
  obtain ⟨z0, z1, fz0, fz1⟩ := box_cells hbk z0' z1' fz0' fz1'
  clear hbk y0' y1' fy0' fy1' z0' z1' fz0' fz1'
  have B9 := B9.set (b := w6.heap.size) (by omega) (.int .i64 ca) (.int .i64 cn)
  obtain ⟨z0', z1', fz0', fz1'⟩ := set_cells (u := .int .i64 ca) (v := .int .i64 cn) z0 z1 fz0 fz1
  obtain ⟨y0', y1', fy0', fy1'⟩ := far_cells (b := w6.heap.size) (u := .int .i64 ca) (v := .int .i64 cn) (show w5.heap.size ≠ w6.heap.size by omega) y0 y1 fy0 fy1
  go_wp2_with fail
  refine (coded_at a v2 k2 HE3 _ (B9.laid A)).mono ?_
  rintro e w10 ⟨rfl, hbk⟩
  have B10 := B9.below hbk
  obtain ⟨y0, y1, fy0, fy1⟩ := box_cells hbk y0' y1' fy0' fy1'
  obtain ⟨z0, z1, fz0, fz1⟩ := box_cells hbk z0' z1' fz0' fz1'
  clear hbk y0' y1' fy0' fy1' z0' z1' fz0' fz1'
  obtain ⟨p0, p1, q0, q1, -⟩ := id B10
  obtain ⟨bh, hbh⟩ : ∃ b, Hid (hasB pa pn x = b) := ⟨_, show _ = _ from rfl⟩
  obtain ⟨bi, hbi⟩ : ∃ b, Hid (inB qa qn pa pn = b) := ⟨_, show _ = _ from rfl⟩
  obtain ⟨bl, hbl⟩ : ∃ b, Hid (lessB pa pn qa qn = b) := ⟨_, show _ = _ from rfl⟩
  go_wp2_with fail
  refine (rHas_t pa pn x bh hbh _).mono ?_
  rintro e w11 ⟨rfl, hbk⟩
  have B11 := B10.below hbk
  clear hbk
  obtain ⟨p0, p1, q0, q1, -⟩ := id B11
  clear y0 y1 fy0 fy1 z0 z1 fz0 fz1
  go_wp2_with fail
  refine (rIn_t qa qn pa pn bi hbi _).mono ?_
  rintro e w12 ⟨rfl, hbk⟩
  have B12 := B11.below hbk
  clear hbk
  obtain ⟨p0, p1, q0, q1, -⟩ := id B12
  go_wp2_with fail
  refine (rLess_t pa pn qa qn bl hbl _).mono ?_
  rintro e w13 ⟨rfl, hbk⟩
  have B13 := B12.below hbk
  clear hbk
  obtain ⟨p0, p1, q0, q1, -⟩ := id B13
  go_wp2_with fail
  refine (has_t pa pn x bh hbh (a 0) (a 1) (a 2) _ (B13.env A).errs).mono ?_
  rintro e w14 ⟨rfl, hbk⟩
  have B14 := B13.below hbk
  clear hbk
  obtain ⟨p0, p1, q0, q1, -⟩ := id B14
  go_wp2_with fail
  refine (in_t qa qn pa pn bi hbi (a 0) (a 1) (a 2) _ (B14.env A).errs).mono ?_
  rintro e w15 ⟨rfl, hbk⟩
  have B15 := B14.below hbk
  clear hbk
  obtain ⟨p0, p1, q0, q1, -⟩ := id B15
  go_wp2_with fail
  refine (less_t pa pn qa qn bl hbl (a 0) (a 1) (a 2) _ (B15.env A).errs).mono ?_
  rintro e w16 ⟨rfl, hbk⟩
  have B16 := B15.below hbk
  clear hbk
  obtain ⟨p0, p1, q0, q1, -⟩ := id B16
  obtain ⟨sz, hsz⟩ : ∃ b, Hid (sizeI pa pn = b) := ⟨_, show _ = _ from rfl⟩
  cases hr : rt pa pn with
  | true =>
    have hc := chkC_rt' hr
    have hL := rt_isL hr
    have HP : Hid (pw pn = sz) := by rw [← hsz.out]; show pw pn = sizeI pa pn; simp [sizeI, hr]
    go_wp2_with fail
    refine (rPrefixError_at pa pn 0 hc _).mono ?_
    rintro e w17 ⟨rfl, hbk⟩
    have B17 := B16.below hbk
    clear hbk
    obtain ⟨p0, p1, q0, q1, -⟩ := id B17
    go_wp2_with fail
    refine (rSizeOf_at pn sz HP hL _).mono ?_
    rintro e w18 ⟨rfl, hw18⟩
    subst hw18
    go_wp2_with fail
    refine (size_at pa pn sz hsz (a 0) (a 1) (a 2) _ (B17.env A).errs).mono ?_
    rintro e w19 ⟨rfl, hbk⟩
    have B19 := B17.below hbk
    clear hbk
    obtain ⟨p0, p1, q0, q1, -⟩ := id B19
    go_wp2_with fail
    go_ret
    exact ⟨rfl, B19.hb⟩
  | false =>
    obtain ⟨c, hc, hc0⟩ := chkC_bad hr
    have hcz : (c == 0) = false := by rw [beq_eq_false_iff_ne]; omega
    have HS : Hid (sizeI pa pn = 0) := by show sizeI pa pn = 0; simp [sizeI, hr]
    go_wp2_with fail
    refine (rPrefixError_at pa pn c hc _).mono ?_
    rintro e w17 ⟨rfl, hbk⟩
    have B17 := B16.below hbk
    clear hbk
    obtain ⟨p0, p1, q0, q1, -⟩ := id B17
    go_wp2_with fail
    refine (size_at pa pn 0 HS (a 0) (a 1) (a 2) _ (B17.env A).errs).mono ?_
    rintro e w19 ⟨rfl, hbk⟩
    have B19 := B17.below hbk
    clear hbk
    obtain ⟨p0, p1, q0, q1, -⟩ := id B19
    go_wp2_with fail
    go_ret
    exact ⟨rfl, B19.hb⟩
end Go.Proofs.YthehpnhjfnenoaaDoor
