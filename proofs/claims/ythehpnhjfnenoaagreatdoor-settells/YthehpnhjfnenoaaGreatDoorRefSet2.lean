/-
  The document's answer, chapter 2 (herepathref1): inside, InSet: what each returns.
-/
import Derived.Test.YthehpnhjfnenoaaGreatDoorRefSet
import Derived.Deep.RegionHeld3
namespace Go.Proofs.YthehpnhjfnenoaaGreatDoor
open Go.RowKit

theorem inB_inR {q p : Int × Int} (hq : rt q.1 q.2 = true) (hp : rt p.1 p.2 = true) : inB q.1 q.2 p.1 p.2 = inR q p :=
  bool_of_iff (in_iff_span hq hp) (inR_iff q p) Iff.rfl
theorem cover_step {l : List (Int × Int)} {p : Int × Int} {k : Nat} (hk : k < l.length) (h : coverL (l.take k) p = false) (h2 : inR p l[k] = false) : coverL (l.take (k + 1)) p = false := by
  rw [List.take_succ_eq_append_getElem hk]
  unfold coverL at *
  rw [List.any_append, h]
  simp [h2]
theorem cover_hit {l : List (Int × Int)} {p : Int × Int} {k : Nat} (hk : k < l.length) (h2 : inR p l[k] = true) : coverL l p = true := by
  unfold coverL
  rw [List.any_eq_true]
  exact ⟨_, List.getElem_mem hk, h2⟩
theorem inside_yes {l : List (Int × Int)} {p : Int × Int} {k : Nat} (hk : k < l.length) (h2 : inR l[k] p = true) : insideL (l.take k) p ++ [l[k]] = insideL (l.take (k + 1)) p := by
  rw [List.take_succ_eq_append_getElem hk]
  unfold insideL
  rw [List.filter_append]
  simp [h2]
theorem inside_no {l : List (Int × Int)} {p : Int × Int} {k : Nat} (hk : k < l.length) (h2 : inR l[k] p = false) : insideL (l.take k) p = insideL (l.take (k + 1)) p := by
  rw [List.take_succ_eq_append_getElem hk]
  unfold insideL
  rw [List.filter_append]
  simp [h2]
theorem inside_length (l : List (Int × Int)) (p : Int × Int) : (insideL l p).length ≤ l.length := List.length_filter_le _ _

set_option linter.unusedVariables false in
set_option linter.unusedSimpArgs false in
set_option maxRecDepth 100000 in
set_option maxHeartbeats 8000000 in
theorem rInside_any (l : List (Int × Int)) (hl : Rights l) (P : Int × Int) (hP : rt P.1 P.2 = true) (p : Option Addr) (c : Nat) (w : World) (hp : Pairs w p l) (hb : l.length ≤ 1099511627776) :
    Calls Tryz.prog 39 #[.slice p l.length c, .agg #[.int .i64 P.1, .int .i64 P.2]] w fun e w' => (∃ v, e = .returned (.tuple #[v, .bool (coverL l P)]) ∧ ((coverL l P = true ∧ v = .slice none 0 0) ∨ (coverL l P = false ∧ w'.ownsRow w.heap.size 39 2 v (insideL l P).length (flat2 (insideL l P))))) ∧ Below w.heap.size w w' := by
  obtain ⟨i0, hi, hz0, hz1, hz2⟩ := info_parts infoPre
  obtain ⟨pa, hpa⟩ : ∃ a, Hid (P.1 = a) := ⟨_, show _ = _ from rfl⟩
  obtain ⟨pn, hpn⟩ : ∃ a, Hid (P.2 = a) := ⟨_, show _ = _ from rfl⟩
  rw [show P.1 = pa from hpa.out, show P.2 = pn from hpn.out]
  have hba := below_alloc w (.cells #[.int .i64 pa, .int .i64 pn] 39)
  have hrow := Go.heap_alloc_new w (.cells #[.int .i64 pa, .int .i64 pn] 39)
  obtain ⟨b3, hb3⟩ : ∃ b, Hid (w.heap.size = b) := ⟨_, show _ = _ from rfl⟩
  obtain ⟨W0, hW0⟩ : ∃ W, Hid (w.alloc (.cells #[.int .i64 pa, .int .i64 pn] 39) = W) := ⟨_, show _ = _ from rfl⟩
  rw [show w.alloc (.cells #[.int .i64 pa, .int .i64 pn] 39) = W0 from hW0.out] at hba hrow
  rw [show w.heap.size = b3 from hb3.out] at hrow
  obtain ⟨HL⟩ : Nonempty (Hid (Pairs W0 p l ∧ Rights l ∧ rt P.1 P.2 = true ∧ Below w.heap.size w W0 ∧ W0.cell? ⟨b3, 0, none⟩ = some (.int .i64 pa) ∧ W0.cell? ⟨b3, 1, none⟩ = some (.int .i64 pn))) := ⟨⟨hp.below hba, hl, hP, hba, (row_cells hrow).1, (row_cells hrow).2.1⟩⟩
  clear hp hl hP hba hrow
  go_enter Tryz.func39, Tryz.ntmps39
  go_wp2
  rw [show w.alloc (.cells #[.int .i64 pa, .int .i64 pn] 39) = W0 from hW0.out, show w.heap.size = b3 from hb3.out]
  go_loopw [6, 7] (fun v z wr => ∃ (k : Nat) (O : List (Int × Int)), z = .int .i64 k ∧ k ≤ l.length ∧ Hid (O = insideL (l.take k) P ∧ coverL (l.take k) P = false) ∧ O.length ≤ k ∧ wr.ownsRow W0.heap.size 39 2 v O.length (flat2 O) ∧ Below W0.heap.size W0 wr) (fun _ z _ => l.length - (intOf z).toNat)
  case atStart => exact ⟨0, [], rfl, Nat.zero_le _, by simp [Hid, insideL, coverL], by simp, World.ownsRow_nil _ _ _ _, Below.refl _ _⟩
  case round =>
    obtain ⟨k, O, rfl, hk, HO, hOk, hown, hbc0⟩ := hrel
    by_cases hlt : k < l.length
    · obtain ⟨bl, ol, hql, c0, c1⟩ := HL.out.1 k hlt
      subst hql
      have hr := HL.out.2.1 _ (List.getElem_mem hlt)
      have e1 := inB_inR (q := P) (p := l[k]) HL.out.2.2.1 hr
      have e2 := inB_inR (q := l[k]) (p := P) hr HL.out.2.2.1
      obtain ⟨a, ha⟩ : ∃ a, Hid (l[k].1 = a) := ⟨_, show _ = _ from rfl⟩
      obtain ⟨n, hn⟩ : ∃ n, Hid (l[k].2 = n) := ⟨_, show _ = _ from rfl⟩
      obtain ⟨r1, hr1⟩ : ∃ r, Hid (inR P l[k] = r) := ⟨_, show _ = _ from rfl⟩
      obtain ⟨r2, hr2⟩ : ∃ r, Hid (inR l[k] P = r) := ⟨_, show _ = _ from rfl⟩
      rw [show inR P l[k] = r1 from hr1.out, show P.1 = pa from hpa.out, show P.2 = pn from hpn.out] at e1
      rw [show inR l[k] P = r2 from hr2.out, show P.1 = pa from hpa.out, show P.2 = pn from hpn.out] at e2
      rw [show l[k].1 = a from ha.out, show l[k].2 = n from hn.out] at e1 e2
      rw [show l[k].1 = a from ha.out] at c0
      rw [show l[k].2 = n from hn.out] at c1
      obtain ⟨HI1⟩ : Nonempty (Hid (∀ W : World, Calls Tryz.prog 55 #[.agg #[.int .i64 pa, .int .i64 pn], .agg #[.int .i64 a, .int .i64 n]] W fun r w' => r = .returned (.bool r1) ∧ Below W.heap.size W w')) := ⟨fun W => by rw [← e1]; exact rIsIn_any pa pn a n W⟩
      obtain ⟨HI2⟩ : Nonempty (Hid (∀ W : World, Calls Tryz.prog 55 #[.agg #[.int .i64 a, .int .i64 n], .agg #[.int .i64 pa, .int .i64 pn]] W fun r w' => r = .returned (.bool r2) ∧ Below W.heap.size W w')) := ⟨fun W => by rw [← e2]; exact rIsIn_any a n pa pn W⟩
      obtain ⟨HKC⟩ : Nonempty (Hid (∀ w', Below W0.heap.size W0 w' → w'.cell? ⟨b3, 0, none⟩ = some (.int .i64 pa) ∧ w'.cell? ⟨b3, 1, none⟩ = some (.int .i64 pn) ∧ w'.cell? ⟨bl, ol + k * 2, none⟩ = some (.int .i64 a) ∧ w'.cell? ⟨bl, ol + k * 2 + 1, none⟩ = some (.int .i64 n))) := ⟨fun w' h => ⟨cell_kept h HL.out.2.2.2.2.1, cell_kept h HL.out.2.2.2.2.2, cell_kept h c0, cell_kept h c1⟩⟩
      have hlt' : (k : Int) < (l.length : Int) := by omega
      have hge : (0 : Int) ≤ (k : Int) := by omega
      clear c0 c1 e1 e2 hr
      obtain ⟨HOW⟩ : Nonempty (Hid (∀ w', Below wr.heap.size wr w' → w'.ownsRow W0.heap.size 39 2 u6 O.length (flat2 O))) := ⟨fun w' h => own_below hown h⟩
      have hb00 := hbc0
      obtain ⟨HB0⟩ : Nonempty (Hid (Below W0.heap.size W0 wr)) := ⟨hb00⟩
      clear hb00 hown
      go_upto_region 5 with fail
      have hbd0 := hbc0.drew
      clear hbc0
      have hbc0 := hbd0
      obtain ⟨HD0⟩ : Nonempty (Hid (Below wr.heap.size wr wr.drew)) := ⟨(Below.refl _ _).drew⟩
      refine wp_region_held_drew (S := (fun w' => w'.cell? ⟨b3, 0, none⟩ = some (.int .i64 pa) ∧ w'.cell? ⟨b3, 1, none⟩ = some (.int .i64 pn) ∧ w'.cell? ⟨bl, ol + k * 2, none⟩ = some (.int .i64 a) ∧ w'.cell? ⟨bl, ol + k * 2 + 1, none⟩ = some (.int .i64 n))) (by kernel_rfl) ?_ (fun hHeld => ?_)
      · exact HKC.out _ hbc0
      refine wpAnyH_take (i := 0) (v := ?_) rfl (by kernel_rfl) (by kernel_rfl) (by kernel_rfl) (fun _ _ _ h => h) (Or.inl ⟨by rfl, ?_⟩) (by assumption) ?_
      rotate_left
      · (intro w hSw; (try dsimp only at hSw); go_simp; try (with_reducible rfl))
      try simp only [Act.put, List.setIfInBounds_toArray, List.set_cons_zero, List.set_cons_succ, List.getElem_toArray, List.getElem_cons_zero, List.getElem_cons_succ]
      refine wpAnyH_take (i := 1) (v := ?_) rfl (by kernel_rfl) (by kernel_rfl) (by kernel_rfl) (fun _ _ _ h => h) (Or.inl ⟨by rfl, ?_⟩) (by assumption) ?_
      rotate_left
      · (intro w hSw; (try dsimp only at hSw); go_simp; try (with_reducible rfl))
      try simp only [Act.put, List.setIfInBounds_toArray, List.set_cons_zero, List.set_cons_succ, List.getElem_toArray, List.getElem_cons_zero, List.getElem_cons_succ]
      refine wpAnyH_take (i := 2) (v := ?_) rfl (by kernel_rfl) (by kernel_rfl) (by kernel_rfl) (fun _ _ _ h => h) (Or.inl ⟨by rfl, ?_⟩) (by assumption) ?_
      rotate_left
      · (intro w hSw; (try dsimp only at hSw); go_simp; try (with_reducible rfl))
      try simp only [Act.put, List.setIfInBounds_toArray, List.set_cons_zero, List.set_cons_succ, List.getElem_toArray, List.getElem_cons_zero, List.getElem_cons_succ]
      refine wpAnyH_take (i := 3) (v := ?_) rfl (by kernel_rfl) (by kernel_rfl) (by kernel_rfl) (fun _ _ _ h => h) (Or.inl ⟨by rfl, ?_⟩) (by assumption) ?_
      rotate_left
      · (intro w hSw; (try dsimp only at hSw); go_simp; try (with_reducible rfl))
      try simp only [Act.put, List.setIfInBounds_toArray, List.set_cons_zero, List.set_cons_succ, List.getElem_toArray, List.getElem_cons_zero, List.getElem_cons_succ]
      refine wpAnyH_take (i := 4) (v := ?_) rfl (by kernel_rfl) (by kernel_rfl) (by kernel_rfl) (fun _ _ _ h => h) (Or.inl ⟨by rfl, ?_⟩) (by assumption) ?_
      rotate_left
      · (intro w hSw; (try dsimp only at hSw); go_simp; try (with_reducible rfl))
      try simp only [Act.put, List.setIfInBounds_toArray, List.set_cons_zero, List.set_cons_succ, List.getElem_toArray, List.getElem_cons_zero, List.getElem_cons_succ]
      refine wpAnyH_ready (rs := [5]) (by kernel_rfl) (by simp) ?_
      refine AllReadyH.cons rfl (fun K hK => ?_) AllReadyH.nil
      go_simp
      refine (HI1.out _).mono ?_
      rintro e w1 ⟨rfl, hbn⟩
      have hbc1 := hbc0.trans (hbn.mono hbc0.size)
      have hKeep := HKC.out _ hbc1
      obtain ⟨HBK1⟩ : Nonempty (Hid (Below wr.heap.size wr w1)) := ⟨HD0.out.trans hbn⟩
      clear hbn hHeld
      refine hK.out _ _ ?_ (fun hHeld => ?_)
      · exact hKeep
      clear hK K
      try simp only [Act.put, List.setIfInBounds_toArray, List.set_cons_zero, List.set_cons_succ, List.getElem_toArray, List.getElem_cons_zero, List.getElem_cons_succ]
      refine wpAnyH_take (i := 6) (v := ?_) rfl (by kernel_rfl) (by kernel_rfl) (by kernel_rfl) (fun _ _ _ h => h) (Or.inl ⟨by rfl, ?_⟩) (by assumption) ?_
      rotate_left
      · (intro w hSw; (try dsimp only at hSw); go_simp; try (with_reducible rfl))
      try simp only [Act.put, List.setIfInBounds_toArray, List.set_cons_zero, List.set_cons_succ, List.getElem_toArray, List.getElem_cons_zero, List.getElem_cons_succ]
      refine wpAnyH_done (by kernel_rfl) ?_ _
      cases r1 with
      | true =>
        obtain ⟨HT⟩ : Nonempty (Hid (coverL l P = true)) := ⟨cover_hit hlt hr1.out⟩
        have hbe := HL.out.2.2.2.1.trans (hbc1.mono HL.out.2.2.2.1.size)
        clear hHeld
        go_wp2
        exact bodyPost_ret (v := .tuple #[.slice none 0 0, .bool true]) (by simp [results, Tryz.results39, go_sem]) rfl ⟨⟨.slice none 0 0, by rw [HT.out], .inl ⟨HT.out, rfl⟩⟩, hbe⟩
      | false =>
        have hbk1 : Below wr.heap.size wr w1 := HBK1.out
        clear hHeld
        go_upto_region 8 with fail
        have hbe1 := hbc1.drew
        clear hbc1
        have hbc1 := hbe1
        clear hbe1
        refine wp_region_held_drew (S := (fun w' => w'.cell? ⟨b3, 0, none⟩ = some (.int .i64 pa) ∧ w'.cell? ⟨b3, 1, none⟩ = some (.int .i64 pn) ∧ w'.cell? ⟨bl, ol + k * 2, none⟩ = some (.int .i64 a) ∧ w'.cell? ⟨bl, ol + k * 2 + 1, none⟩ = some (.int .i64 n))) (by kernel_rfl) ?_ (fun hHeld => ?_)
        · exact HKC.out _ hbc1
        refine wpAnyH_take (i := 0) (v := ?_) rfl (by kernel_rfl) (by kernel_rfl) (by kernel_rfl) (fun _ _ _ h => h) (Or.inl ⟨by rfl, ?_⟩) (by assumption) ?_
        rotate_left
        · (intro w hSw; (try dsimp only at hSw); go_simp; try (with_reducible rfl))
        try simp only [Act.put, List.setIfInBounds_toArray, List.set_cons_zero, List.set_cons_succ, List.getElem_toArray, List.getElem_cons_zero, List.getElem_cons_succ]
        refine wpAnyH_take (i := 1) (v := ?_) rfl (by kernel_rfl) (by kernel_rfl) (by kernel_rfl) (fun _ _ _ h => h) (Or.inl ⟨by rfl, ?_⟩) (by assumption) ?_
        rotate_left
        · (intro w hSw; (try dsimp only at hSw); go_simp; try (with_reducible rfl))
        try simp only [Act.put, List.setIfInBounds_toArray, List.set_cons_zero, List.set_cons_succ, List.getElem_toArray, List.getElem_cons_zero, List.getElem_cons_succ]
        refine wpAnyH_take (i := 2) (v := ?_) rfl (by kernel_rfl) (by kernel_rfl) (by kernel_rfl) (fun _ _ _ h => h) (Or.inl ⟨by rfl, ?_⟩) (by assumption) ?_
        rotate_left
        · (intro w hSw; (try dsimp only at hSw); go_simp; try (with_reducible rfl))
        try simp only [Act.put, List.setIfInBounds_toArray, List.set_cons_zero, List.set_cons_succ, List.getElem_toArray, List.getElem_cons_zero, List.getElem_cons_succ]
        refine wpAnyH_take (i := 3) (v := ?_) rfl (by kernel_rfl) (by kernel_rfl) (by kernel_rfl) (fun _ _ _ h => h) (Or.inl ⟨by rfl, ?_⟩) (by assumption) ?_
        rotate_left
        · (intro w hSw; (try dsimp only at hSw); go_simp; try (with_reducible rfl))
        try simp only [Act.put, List.setIfInBounds_toArray, List.set_cons_zero, List.set_cons_succ, List.getElem_toArray, List.getElem_cons_zero, List.getElem_cons_succ]
        refine wpAnyH_take (i := 4) (v := ?_) rfl (by kernel_rfl) (by kernel_rfl) (by kernel_rfl) (fun _ _ _ h => h) (Or.inl ⟨by rfl, ?_⟩) (by assumption) ?_
        rotate_left
        · (intro w hSw; (try dsimp only at hSw); go_simp; try (with_reducible rfl))
        try simp only [Act.put, List.setIfInBounds_toArray, List.set_cons_zero, List.set_cons_succ, List.getElem_toArray, List.getElem_cons_zero, List.getElem_cons_succ]
        refine wpAnyH_ready (rs := [5]) (by kernel_rfl) (by simp) ?_
        refine AllReadyH.cons rfl (fun K hK => ?_) AllReadyH.nil
        go_simp
        refine (HI2.out _).mono ?_
        rintro e w2 ⟨rfl, hbn⟩
        have hbc2 := hbc1.trans (hbn.mono hbc1.size)
        have hKeep := HKC.out _ hbc2
        obtain ⟨HBK2⟩ : Nonempty (Hid (Below wr.heap.size wr w2)) := ⟨(HBK1.out.drew).trans (hbn.mono HBK1.out.size)⟩
        clear hbn hHeld
        refine hK.out _ _ ?_ (fun hHeld => ?_)
        · exact hKeep
        clear hK K
        try simp only [Act.put, List.setIfInBounds_toArray, List.set_cons_zero, List.set_cons_succ, List.getElem_toArray, List.getElem_cons_zero, List.getElem_cons_succ]
        refine wpAnyH_take (i := 6) (v := ?_) rfl (by kernel_rfl) (by kernel_rfl) (by kernel_rfl) (fun _ _ _ h => h) (Or.inl ⟨by rfl, ?_⟩) (by assumption) ?_
        rotate_left
        · (intro w hSw; (try dsimp only at hSw); go_simp; try (with_reducible rfl))
        try simp only [Act.put, List.setIfInBounds_toArray, List.set_cons_zero, List.set_cons_succ, List.getElem_toArray, List.getElem_cons_zero, List.getElem_cons_succ]
        refine wpAnyH_done (by kernel_rfl) ?_ _
        have hown2 := HOW.out w2 HBK2.out
        obtain ⟨HCV⟩ : Nonempty (Hid (coverL (l.take (k + 1)) P = false)) := ⟨cover_step hlt HO.out.2 hr1.out⟩
        cases r2 with
        | true =>
          obtain ⟨O', HO'⟩ : ∃ O', Hid (O ++ [(a, n)] = O') := ⟨_, show _ = _ from rfl⟩
          obtain ⟨g0, g1, g2, g3⟩ := hHeld
          clear HB0 HD0 HBK1 HBK2 hbk1
          go_wp2_with (at_builtin; refine wp_push rfl _ _ 22 rfl W0.heap.size 39 i0 Tryz.underlying22 hi hz0 hz1 hz2 _ O rfl hown2 a n _ rfl (by simp) O' HO' (by omega) hbc2.size ?_)
          rintro v' w5 hown5 hb5 -
          have hbc5 := hbc2.trans hb5
          clear hown2 hb5 hbc2 g0 g1 g2 g3
          go_wp2
          go_roundw
          case rel =>
            refine ⟨k + 1, O', by go_num, by omega, ⟨?_, HCV.out⟩, by rw [← HO'.out]; simp; omega, hown5, hbc5⟩
            rw [← HO'.out, HO.out.1, ← ha.out, ← hn.out]
            exact inside_yes hlt hr2.out
          case measure => simp [intOf]; omega
        | false =>
          clear hHeld HB0 HD0 HBK1 HBK2 hbk1
          go_wp2
          go_roundw
          case rel =>
            refine ⟨k + 1, O, by go_num, by omega, ⟨?_, HCV.out⟩, by omega, hown2, hbc2⟩
            rw [HO.out.1]
            exact inside_no hlt hr2.out
          case measure => simp [intOf]; omega
    · have hkl : k = l.length := by omega
      obtain ⟨HE⟩ : Nonempty (Hid (O = insideL l P ∧ coverL l P = false)) := ⟨by have := HO.out; rw [hkl, List.take_length] at this; exact this⟩
      have hbe := HL.out.2.2.2.1.trans (hbc0.mono HL.out.2.2.2.1.size)
      have hown2 := own_mono hown HL.out.2.2.2.1.size
      obtain ⟨HW⟩ : Nonempty (Hid (wr.ownsRow w.heap.size 39 2 u6 O.length (flat2 O))) := ⟨hown2⟩
      clear hkl hown hbc0 hown2
      go_wp2
      exact bodyPost_ret (v := .tuple #[u6, .bool false]) (by simp [results, Tryz.results39, go_sem]) rfl ⟨⟨u6, by rw [HE.out.2], .inr ⟨HE.out.2, by rw [← HE.out.1]; exact HW.out⟩⟩, hbe⟩

set_option linter.unusedVariables false in
set_option maxRecDepth 100000 in
set_option maxHeartbeats 4000000 in
theorem rInSet_any (L : List (Int × Int)) (p : Option Addr) (c : Nat) (x : Int) (w : World) (hL : Pairs w p L) (hl : L.length ≤ 1099511627776) :
    Calls Tryz.prog 12 #[.slice p L.length c, .int .i64 x] w fun e w' => e = .returned (.bool (hasL L x)) ∧ Below w.heap.size w w' := by
  obtain ⟨HL⟩ : Nonempty (Hid (Pairs w p L)) := ⟨hL⟩
  clear hL
  go_enter Tryz.func12, Tryz.ntmps12
  go_wp2
  go_loopw [5] (fun z wr => ∃ k : Nat, z = .int .i64 k ∧ k ≤ L.length ∧ Hid (∀ j (hj : j < L.length), j < k → hasB L[j].1 L[j].2 x = false) ∧ Below w.heap.size w wr) (fun z _ => L.length - (intOf z).toNat)
  case atStart => exact ⟨0, rfl, Nat.zero_le _, fun j _ h => by omega, Below.refl _ _⟩
  case round =>
    obtain ⟨k, rfl, hk, HN, hb⟩ := hrel
    by_cases hlt : k < L.length
    · obtain ⟨b0, o0, rfl, c0, c1⟩ := HL.out k hlt
      have c0' := cell_kept hb c0
      have c1' := cell_kept hb c1
      obtain ⟨HC⟩ : Nonempty (Hid (Calls _ _ _ _ _)) := ⟨rHasAddr_any L[k].1 L[k].2 x wr⟩
      obtain ⟨a, ha⟩ : ∃ a, Hid (L[k].1 = a) := ⟨_, show _ = _ from rfl⟩
      obtain ⟨n, hn⟩ : ∃ n, Hid (L[k].2 = n) := ⟨_, show _ = _ from rfl⟩
      obtain ⟨r, hr⟩ : ∃ r, Hid (hasB L[k].1 L[k].2 x = r) := ⟨_, show _ = _ from rfl⟩
      rw [show hasB L[k].1 L[k].2 x = r from hr.out] at HC
      rw [show L[k].1 = a from ha.out] at c0' HC
      rw [show L[k].2 = n from hn.out] at c1' HC
      clear c0 c1
      go_wp2_with fail
      refine HC.out.mono ?_
      rintro e w1 ⟨rfl, hb1⟩
      have hb2 := hb.trans (hb1.mono hb.size)
      cases r with
      | true =>
        obtain ⟨HT⟩ : Nonempty (Hid (hasL L x = true)) := ⟨hasL_some hlt hr.out⟩
        clear HC hb hb1 c0' c1'
        go_wp2
        go_ret
        exact ⟨ret_bool HT.out.symm, hb2⟩
      | false =>
        clear HC hb hb1 c0' c1'
        go_wp2
        go_roundw
        case rel =>
          refine ⟨k + 1, by go_num, by omega, fun j hj hjk => ?_, hb2⟩
          by_cases he : j = k
          · subst he; exact hr.out
          · exact HN.out j hj (by omega)
        case measure => simp [intOf]; omega
    · obtain ⟨HT⟩ : Nonempty (Hid (hasL L x = false)) := ⟨hasL_none (fun j hj => HN.out j hj (by omega))⟩
      go_wp2
      go_ret
      exact ⟨ret_bool HT.out.symm, hb⟩
end Go.Proofs.YthehpnhjfnenoaaGreatDoor
