/-
  The document's SameRoutes and SameMsg: what they return.
-/
import Derived.Test.YtkcacdlgmapjjaaRouteBase
import Derived.Test.YtkcacdlgmapjjaaAttrRef1
import Derived.Deep.RegionHeld3
import Derived.Deep.Cut
import Derived.Laws.EntriesVeiled
import Derived.Deep.QuietTactic
import Derived.BigQuiet
import Derived.RegionTactic
namespace Go.Proofs.Ytkcacdlgmapjjaa
open Go.RowKit
open scoped Classical

theorem ro_eq {a b : Ro} (g1 : a.dst.1 = b.dst.1) (g2 : a.dst.2 = b.dst.2) (g3 : a.frm = b.frm) (g4 : a.att = b.att) : a = b := by
  obtain ⟨⟨x, y⟩, t, f⟩ := a
  obtain ⟨⟨x', y'⟩, t', f'⟩ := b
  simp only at g1 g2 g3 g4
  subst g1 g2 g3 g4
  rfl
theorem rlist_ne {A B : List Ro} {k : Nat} (h1 : k < A.length) (h2 : k < B.length) (h : A[k].dst.1 ≠ B[k].dst.1 ∨ A[k].dst.2 ≠ B[k].dst.2 ∨ A[k].frm ≠ B[k].frm ∨ A[k].att ≠ B[k].att) : decide (A = B) = false := by
  refine decide_eq_false (fun e => ?_)
  subst e
  rcases h with h | h | h | h <;> exact h rfl
theorem rlist_snoc {A B : List Ro} {k : Nat} (h : A.take k = B.take k) (h1 : k < A.length) (h2 : k < B.length) (he : A[k] = B[k]) : A.take (k + 1) = B.take (k + 1) := by
  rw [List.take_succ_eq_append_getElem h1, List.take_succ_eq_append_getElem h2, h, he]

set_option linter.unusedVariables false in
set_option linter.unusedSimpArgs false in
set_option maxRecDepth 100000 in
set_option maxHeartbeats 8000000 in
theorem sameRoutes_any (A B : List Ro) (p q : Option Addr) (cp cq : Nat) (w : World) (hA : Routes w p A) (hB : Routes w q B) (h1 : A.length ≤ 1000000) (h2 : B.length ≤ 1000000) (hm : Mod A) (hm' : Mod B) :
    Calls Try.prog 8 #[.slice p A.length cp, .slice q B.length cq] w fun r w' => r = .returned (.bool (decide (A = B))) ∧ Below w.heap.size w w' := by
  obtain ⟨res, hres⟩ : ∃ x, Hid (decide (A = B) = x) := ⟨_, show _ = _ from rfl⟩
  rw [show decide (A = B) = res from hres.out]
  obtain ⟨HA⟩ : Nonempty (Hid (∀ w', Below w.heap.size w w' → Routes w' p A ∧ Routes w' q B)) := ⟨fun w' hb => ⟨hA.below hb, hB.below hb⟩⟩
  obtain ⟨HM⟩ : Nonempty (Hid (Mod A ∧ Mod B)) := ⟨⟨hm, hm'⟩⟩
  obtain ⟨HS⟩ : Nonempty (Hid (Below w.heap.size w w)) := ⟨Below.refl _ _⟩
  clear hA hB hm hm'
  by_cases hl : A.length = B.length
  rotate_left
  · have HR : Hid (res = false) := by
      show _ = _
      rw [← hres.out]
      exact decide_eq_false (fun e => hl (by rw [e]))
    have hl' : ((A.length : Int) == B.length) = false := beq_eq_false_iff_ne.2 (by omega)
    clear hl
    go_enter Try.func8, Try.ntmps8
    go_wp2_with fail
    go_ret
    exact ⟨by rw [HR.out]; rfl, HS.out⟩
  obtain ⟨n, hn⟩ : ∃ n, A.length = n := ⟨_, rfl⟩
  obtain ⟨HL⟩ : Nonempty (Hid (A.length = n ∧ B.length = n)) := ⟨⟨hn, by omega⟩⟩
  rw [show B.length = n by omega, hn]
  have hn1 : n ≤ 1000000 := by omega
  clear hl hn h1 h2
  go_enter Try.func8, Try.ntmps8
  go_wp2_with fail
  go_loopw [5] (fun i wr => ∃ k : Nat, i = .int .i64 k ∧ k ≤ n ∧ Hid (A.take k = B.take k) ∧ Hid (Below w.heap.size w wr)) (fun i _ => n - (intOf i).toNat)
  case atStart => exact ⟨0, rfl, Nat.zero_le _, by show _ = _; simp, HS⟩
  case round =>
    obtain ⟨k, rfl, hk, HK, HW⟩ := hrel
    by_cases hlt : k < n
    rotate_left
    · obtain rfl : k = n := by omega
      have HR : Hid (res = true) := by
        show _ = _
        rw [← hres.out]
        have := HK.out
        rw [List.take_of_length_le (by have := HL.out; omega), List.take_of_length_le (by have := HL.out; omega)] at this
        exact decide_eq_true this
      go_wp2_with fail
      go_ret
      exact ⟨by rw [HR.out]; rfl, HW.out⟩
    have hkA : k < A.length := by have := HL.out; omega
    have hkB : k < B.length := by have := HL.out; omega
    obtain ⟨b, o, rfl, p1, c1, p2, c2, a0, a1, a2, a3, a4, a5, a6, a7, i1, i2⟩ := (HA.out wr HW.out).1 k hkA
    obtain ⟨b', o', rfl, q1, d1, q2, d2, e0, e1, e2, e3, e4, e5, e6, e7, j1, j2⟩ := (HA.out wr HW.out).2 k hkB
    have q3 : (k : Int) < n := by omega
    have m1 := HM.out.1 A[k] (List.getElem_mem hkA)
    have m2 := HM.out.2 B[k] (List.getElem_mem hkB)
    have HEQ : Hid (A[k].dst.1 = B[k].dst.1 → A[k].dst.2 = B[k].dst.2 → A[k].frm = B[k].frm → A[k].att = B[k].att → A.take (k + 1) = B.take (k + 1)) := fun g1 g2 g3 g4 => rlist_snoc HK.out hkA hkB (ro_eq g1 g2 g3 g4)
    have HNE : Hid ((A[k].dst.1 ≠ B[k].dst.1 ∨ A[k].dst.2 ≠ B[k].dst.2 ∨ A[k].frm ≠ B[k].frm ∨ A[k].att ≠ B[k].att) → res = false) := fun h => hres.out.symm.trans (rlist_ne hkA hkB h)
    obtain ⟨x1, hx1⟩ : ∃ x, Hid (A[k].dst.1 = x) := ⟨_, show _ = _ from rfl⟩
    obtain ⟨x2, hx2⟩ : ∃ x, Hid (A[k].dst.2 = x) := ⟨_, show _ = _ from rfl⟩
    obtain ⟨x3, hx3⟩ : ∃ x, Hid (A[k].frm = x) := ⟨_, show _ = _ from rfl⟩
    obtain ⟨x4, hx4⟩ : ∃ x, Hid (A[k].att = x) := ⟨_, show _ = _ from rfl⟩
    obtain ⟨y1, hy1⟩ : ∃ x, Hid (B[k].dst.1 = x) := ⟨_, show _ = _ from rfl⟩
    obtain ⟨y2, hy2⟩ : ∃ x, Hid (B[k].dst.2 = x) := ⟨_, show _ = _ from rfl⟩
    obtain ⟨y3, hy3⟩ : ∃ x, Hid (B[k].frm = x) := ⟨_, show _ = _ from rfl⟩
    obtain ⟨y4, hy4⟩ : ∃ x, Hid (B[k].att = x) := ⟨_, show _ = _ from rfl⟩
    rw [show A[k].dst.1 = x1 from hx1.out, show A[k].dst.2 = x2 from hx2.out, show A[k].frm = x3 from hx3.out, show A[k].att = x4 from hx4.out, show B[k].dst.1 = y1 from hy1.out, show B[k].dst.2 = y2 from hy2.out, show B[k].frm = y3 from hy3.out, show B[k].att = y4 from hy4.out] at HEQ HNE
    rw [show A[k].att = x4 from hx4.out] at m1 i1 i2
    rw [show B[k].att = y4 from hy4.out] at m2 j1 j2
    rw [show A[k].dst.1 = x1 from hx1.out] at a0
    rw [show A[k].dst.2 = x2 from hx2.out] at a1
    rw [show A[k].att = x4 from hx4.out] at a2 a3 a4 a5 a6
    rw [show A[k].frm = x3 from hx3.out] at a7
    rw [show B[k].dst.1 = y1 from hy1.out] at e0
    rw [show B[k].dst.2 = y2 from hy2.out] at e1
    rw [show B[k].att = y4 from hy4.out] at e2 e3 e4 e5 e6
    rw [show B[k].frm = y3 from hy3.out] at e7
    obtain ⟨HC⟩ : Nonempty (Hid (∀ w', Below wr.heap.size wr w' → Calls Try.prog 18 #[.agg #[.slice p1 x4.path.length c1, .int .i64 x4.pref, .int .i64 x4.med, .int .i64 x4.org, .slice p2 x4.tags.length c2], .agg #[.slice q1 y4.path.length d1, .int .i64 y4.pref, .int .i64 y4.med, .int .i64 y4.org, .slice q2 y4.tags.length d2]] w' fun r w'' => r = .returned (.bool (decide (x4 = y4))) ∧ Below w'.heap.size w' w'')) := ⟨fun w' hb => rSameAttr_any _ _ x4 y4 w' ⟨p1, c1, p2, c2, rfl, i1.below hb, i2.below hb⟩ ⟨q1, d1, q2, d2, rfl, j1.below hb, j2.below hb⟩ m1.1 m1.2 m2.1 m2.2⟩
    clear i1 i2 j1 j2 m1 m2
    obtain ⟨HKC⟩ : Nonempty (Hid (∀ w', Below wr.heap.size wr w' → (fun w' : World => (w'.cell? ⟨b, o + k * 8 + 2, none⟩ = some (.slice p1 x4.path.length c1) ∧ w'.cell? ⟨b, o + k * 8 + 3, none⟩ = some (.int .i64 x4.pref) ∧ w'.cell? ⟨b, o + k * 8 + 4, none⟩ = some (.int .i64 x4.med) ∧ w'.cell? ⟨b, o + k * 8 + 5, none⟩ = some (.int .i64 x4.org) ∧ w'.cell? ⟨b, o + k * 8 + 6, none⟩ = some (.slice p2 x4.tags.length c2)) ∧ w'.cell? ⟨b', o' + k * 8 + 2, none⟩ = some (.slice q1 y4.path.length d1) ∧ w'.cell? ⟨b', o' + k * 8 + 3, none⟩ = some (.int .i64 y4.pref) ∧ w'.cell? ⟨b', o' + k * 8 + 4, none⟩ = some (.int .i64 y4.med) ∧ w'.cell? ⟨b', o' + k * 8 + 5, none⟩ = some (.int .i64 y4.org) ∧ w'.cell? ⟨b', o' + k * 8 + 6, none⟩ = some (.slice q2 y4.tags.length d2)) w')) := ⟨fun w' hb => ⟨⟨cell_kept hb a2, cell_kept hb a3, cell_kept hb a4, cell_kept hb a5, cell_kept hb a6⟩, ⟨cell_kept hb e2, cell_kept hb e3, cell_kept hb e4, cell_kept hb e5, cell_kept hb e6⟩⟩⟩
    obtain ⟨HTO⟩ : Nonempty (Hid (∀ w', Below wr.heap.size wr w' → w'.cell? ⟨b, o + k * 8, none⟩ = some (.int .i64 x1) ∧ w'.cell? ⟨b, o + k * 8 + 1, none⟩ = some (.int .i64 x2) ∧ w'.cell? ⟨b, o + k * 8 + 7, none⟩ = some (.int .i64 x3) ∧ w'.cell? ⟨b', o' + k * 8, none⟩ = some (.int .i64 y1) ∧ w'.cell? ⟨b', o' + k * 8 + 1, none⟩ = some (.int .i64 y2) ∧ w'.cell? ⟨b', o' + k * 8 + 7, none⟩ = some (.int .i64 y3))) := ⟨fun w' hb => ⟨cell_kept hb a0, cell_kept hb a1, cell_kept hb a7, cell_kept hb e0, cell_kept hb e1, cell_kept hb e7⟩⟩
    obtain ⟨t, ht⟩ : ∃ t, Hid (decide (x4 = y4) = t) := ⟨_, show _ = _ from rfl⟩
    rw [show decide (x4 = y4) = t from ht.out] at HC
    clear a0 a1 a2 a3 a4 a5 a6 a7 e0 e1 e2 e3 e4 e5 e6 e7 hx1 hx2 hx3 hx4 hy1 hy2 hy3 hy4
    go_upto_region 6 with fail
    refine wp_region_held_drew (S := (fun w' : World => (w'.cell? ⟨b, o + k * 8 + 2, none⟩ = some (.slice p1 x4.path.length c1) ∧ w'.cell? ⟨b, o + k * 8 + 3, none⟩ = some (.int .i64 x4.pref) ∧ w'.cell? ⟨b, o + k * 8 + 4, none⟩ = some (.int .i64 x4.med) ∧ w'.cell? ⟨b, o + k * 8 + 5, none⟩ = some (.int .i64 x4.org) ∧ w'.cell? ⟨b, o + k * 8 + 6, none⟩ = some (.slice p2 x4.tags.length c2)) ∧ w'.cell? ⟨b', o' + k * 8 + 2, none⟩ = some (.slice q1 y4.path.length d1) ∧ w'.cell? ⟨b', o' + k * 8 + 3, none⟩ = some (.int .i64 y4.pref) ∧ w'.cell? ⟨b', o' + k * 8 + 4, none⟩ = some (.int .i64 y4.med) ∧ w'.cell? ⟨b', o' + k * 8 + 5, none⟩ = some (.int .i64 y4.org) ∧ w'.cell? ⟨b', o' + k * 8 + 6, none⟩ = some (.slice q2 y4.tags.length d2))) (by kernel_rfl) ?_ (fun hHeld => ?_)
    · exact HKC.out _ (Below.refl _ _).drew
    refine wpAnyH_take (i := 0) (v := ?_) rfl (by kernel_rfl) (by kernel_rfl) (by kernel_rfl) (fun _ _ _ h => h) (Or.inl ⟨by rfl, ?_⟩) (by assumption) ?_
    rotate_left
    · (intro w hSw; (try dsimp only at hSw); go_simp; try (with_reducible rfl))
    try simp only [Act.put, List.setIfInBounds_toArray, List.set_cons_zero, List.set_cons_succ, List.getElem_toArray, List.getElem_cons_zero, List.getElem_cons_succ]
    refine wpAnyH_take (i := 1) (v := ?_) rfl (by kernel_rfl) (by kernel_rfl) (by kernel_rfl) (fun _ _ _ h => h) (Or.inl ⟨by rfl, ?_⟩) (by assumption) ?_
    rotate_left
    · (intro w hSw; (try dsimp only at hSw); go_simp; try (with_reducible rfl))
    try simp only [Act.put, List.setIfInBounds_toArray, List.set_cons_zero, List.set_cons_succ, List.getElem_toArray, List.getElem_cons_zero, List.getElem_cons_succ]
    refine wpAnyH_take (i := 2) (v := ?_) rfl (by kernel_rfl) (by kernel_rfl) (by kernel_rfl) (fun _ _ _ h => h) (Or.inl ⟨by rfl, ?_⟩) (by assumption) ?_
    rotate_left
    · (intro w hSw; (try dsimp only at hSw); go_simp; try (with_reducible rfl))
    try simp only [Act.put, List.setIfInBounds_toArray, List.set_cons_zero, List.set_cons_succ, List.getElem_toArray, List.getElem_cons_zero, List.getElem_cons_succ]
    refine wpAnyH_take (i := 3) (v := ?_) rfl (by kernel_rfl) (by kernel_rfl) (by kernel_rfl) (fun _ _ _ h => h) (Or.inl ⟨by rfl, ?_⟩) (by assumption) ?_
    rotate_left
    · (intro w hSw; (try dsimp only at hSw); go_simp; try (with_reducible rfl))
    try simp only [Act.put, List.setIfInBounds_toArray, List.set_cons_zero, List.set_cons_succ, List.getElem_toArray, List.getElem_cons_zero, List.getElem_cons_succ]
    refine wpAnyH_take (i := 4) (v := ?_) rfl (by kernel_rfl) (by kernel_rfl) (by kernel_rfl) (fun _ _ _ h => h) (Or.inl ⟨by rfl, ?_⟩) (by assumption) ?_
    rotate_left
    · (intro w hSw; (try dsimp only at hSw); go_simp; try (with_reducible rfl))
    try simp only [Act.put, List.setIfInBounds_toArray, List.set_cons_zero, List.set_cons_succ, List.getElem_toArray, List.getElem_cons_zero, List.getElem_cons_succ]
    refine wpAnyH_take (i := 5) (v := ?_) rfl (by kernel_rfl) (by kernel_rfl) (by kernel_rfl) (fun _ _ _ h => h) (Or.inl ⟨by rfl, ?_⟩) (by assumption) ?_
    rotate_left
    · (intro w hSw; (try dsimp only at hSw); go_simp; try (with_reducible rfl))
    try simp only [Act.put, List.setIfInBounds_toArray, List.set_cons_zero, List.set_cons_succ, List.getElem_toArray, List.getElem_cons_zero, List.getElem_cons_succ]
    refine wpAnyH_take (i := 6) (v := ?_) rfl (by kernel_rfl) (by kernel_rfl) (by kernel_rfl) (fun _ _ _ h => h) (Or.inl ⟨by rfl, ?_⟩) (by assumption) ?_
    rotate_left
    · (intro w hSw; (try dsimp only at hSw); go_simp; try (with_reducible rfl))
    try simp only [Act.put, List.setIfInBounds_toArray, List.set_cons_zero, List.set_cons_succ, List.getElem_toArray, List.getElem_cons_zero, List.getElem_cons_succ]
    refine wpAnyH_take (i := 7) (v := ?_) rfl (by kernel_rfl) (by kernel_rfl) (by kernel_rfl) (fun _ _ _ h => h) (Or.inl ⟨by rfl, ?_⟩) (by assumption) ?_
    rotate_left
    · (intro w hSw; (try dsimp only at hSw); go_simp; try (with_reducible rfl))
    try simp only [Act.put, List.setIfInBounds_toArray, List.set_cons_zero, List.set_cons_succ, List.getElem_toArray, List.getElem_cons_zero, List.getElem_cons_succ]
    refine wpAnyH_take (i := 8) (v := ?_) rfl (by kernel_rfl) (by kernel_rfl) (by kernel_rfl) (fun _ _ _ h => h) (Or.inl ⟨by rfl, ?_⟩) (by assumption) ?_
    rotate_left
    · (intro w hSw; (try dsimp only at hSw); go_simp; try (with_reducible rfl))
    try simp only [Act.put, List.setIfInBounds_toArray, List.set_cons_zero, List.set_cons_succ, List.getElem_toArray, List.getElem_cons_zero, List.getElem_cons_succ]
    refine wpAnyH_take (i := 9) (v := ?_) rfl (by kernel_rfl) (by kernel_rfl) (by kernel_rfl) (fun _ _ _ h => h) (Or.inl ⟨by rfl, ?_⟩) (by assumption) ?_
    rotate_left
    · (intro w hSw; (try dsimp only at hSw); go_simp; try (with_reducible rfl))
    try simp only [Act.put, List.setIfInBounds_toArray, List.set_cons_zero, List.set_cons_succ, List.getElem_toArray, List.getElem_cons_zero, List.getElem_cons_succ]
    refine wpAnyH_ready (rs := [10]) (by kernel_rfl) (by simp) ?_
    refine AllReadyH.cons rfl (fun K hK => ?_) AllReadyH.nil
    go_simp
    refine (HC.out _ (Below.refl _ _).drew).mono ?_
    rintro e w1 ⟨rfl, hb1⟩
    obtain ⟨HB1⟩ : Nonempty (Hid (Below wr.heap.size wr w1)) := ⟨(Below.refl _ _).drew.trans hb1⟩
    have hKeep := HKC.out _ HB1.out
    clear hb1 hHeld
    refine hK.out _ _ ?_ (fun hHeld => ?_)
    · exact hKeep
    clear hK K hKeep
    try simp only [Act.put, List.setIfInBounds_toArray, List.set_cons_zero, List.set_cons_succ, List.getElem_toArray, List.getElem_cons_zero, List.getElem_cons_succ]
    refine wpAnyH_take (i := 11) (v := ?_) rfl (by kernel_rfl) (by kernel_rfl) (by kernel_rfl) (fun _ _ _ h => h) (Or.inl ⟨by rfl, ?_⟩) (by assumption) ?_
    rotate_left
    · (intro w hSw; (try dsimp only at hSw); go_simp; try (with_reducible rfl))
    try simp only [Act.put, List.setIfInBounds_toArray, List.set_cons_zero, List.set_cons_succ, List.getElem_toArray, List.getElem_cons_zero, List.getElem_cons_succ]
    refine wpAnyH_done (by kernel_rfl) ?_ _
    clear hHeld
    obtain ⟨f0, f1, f7, g0, g1, g7⟩ := HTO.out _ HB1.out
    obtain ⟨HBW⟩ : Nonempty (Hid (Below w.heap.size w w1)) := ⟨HW.out.trans (HB1.out.mono HW.out.size)⟩
    go_upto_region 7 with fail
    by_cases hd : x1 = y1 ∧ x2 = y2
    rotate_left
    · have HR : Hid (res = false) := HNE.out (by
        by_cases h1 : x1 = y1
        · exact .inr (.inl fun h2 => hd ⟨h1, h2⟩)
        · exact .inl h1)
      by_cases h1 : x1 = y1
      · subst h1
        have h2 : (x2 == y2) = false := beq_eq_false_iff_ne.2 fun e => hd ⟨rfl, e⟩
        clear hd
        go_quiet (fail)
        go_wp2
        go_ret
        exact ⟨by rw [HR.out]; rfl, below_drewN HBW.out _⟩
      · have h1' : (x1 == y1) = false := beq_eq_false_iff_ne.2 h1
        clear hd h1
        go_quiet (fail)
        go_wp2
        go_ret
        exact ⟨by rw [HR.out]; rfl, below_drewN HBW.out _⟩
    · obtain ⟨rfl, rfl⟩ := hd
      by_cases h3 : x3 = y3
      rotate_left
      · have HR : Hid (res = false) := HNE.out (.inr (.inr (.inl h3)))
        have h3' : (x3 == y3) = false := beq_eq_false_iff_ne.2 h3
        have h3'' : (x3 != y3) = true := by rw [bne, h3']; rfl
        clear h3
        go_quiet (fail)
        go_wp2
        go_ret
        exact ⟨by rw [HR.out]; rfl, below_drewN HBW.out _⟩
      · subst h3
        cases t with
        | false =>
          have HR : Hid (res = false) := HNE.out (.inr (.inr (.inr (of_decide_eq_false ht.out))))
          go_quiet (fail)
          go_wp2
          go_ret
          exact ⟨by rw [HR.out]; rfl, below_drewN HBW.out _⟩
        | true =>
          have HR : Hid (A.take (k + 1) = B.take (k + 1)) := HEQ.out rfl rfl rfl (of_decide_eq_true ht.out)
          go_quiet (fail)
          go_wp2
          go_roundw
          case rel => first | exact ⟨k + 1, by go_num, by omega, HR, below_drewN HBW.out _⟩ | ((repeat apply Exists.intro); exact ⟨⟨k + 1, by go_num, by omega, HR, below_drewN HBW.out _⟩, rfl⟩)
          case measure => simp [intOf]; omega
end Go.Proofs.Ytkcacdlgmapjjaa
