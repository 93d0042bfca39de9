/-
  Package set's spansOf: prefixes as spans, or the first one that is wrong.
-/
import Derived.Test.YthehpnhjfnenoaaDoorSet4
import Derived.Test.YthehpnhjfnenoaaDoorSetMath3
import Derived.Laws.MakeOwn
import Derived.Deep.RegionHeld3
namespace Go.Proofs.YthehpnhjfnenoaaDoor
open Go.RowKit

/-- spansOf's loop: k prefixes are read, all of them right. -/
theorem take_step (l : List (Int × Int)) (k : Nat) (hk : k < l.length) : ((l.take k).map spanOf) ++ [(l[k].1, l[k].1 + pw l[k].2)] = (l.take (k + 1)).map spanOf := by
  rw [List.take_succ_eq_append_getElem hk, List.map_append]; rfl
theorem make_spans (n : Nat) (w : World) (hn : n ≤ 1099511627776) : (Instr.makeSlice 85 (.int .i64 0) (.int .i64 (n : Int))).run Tryd.prog w = .ok (.slice (some ⟨w.heap.size, 0, none⟩) 0 n) (w.alloc (.cells (madeCells #[.int .i64 0, .int .i64 0] (n * 2)) 93)) := by
  obtain ⟨i0, hi, hz0, hz1, hz2⟩ := info_parts infoSpan
  have h := run_make (P := Tryd.prog) w 85 93 i0 (.agg #[.int .i64 0, .int .i64 0]) Tryd.underlying85 hi hz0 .i64 .i64 0 (n : Int) (by omega) (by omega) (by rw [hz2]; omega) (by omega)
  rw [hz1, Int.toNat_natCast] at h
  exact h
theorem made_spans (n B : Nat) (w : World) (hn : n ≤ 1099511627776) (hB : B ≤ w.heap.size) : (w.alloc (.cells (madeCells #[.int .i64 0, .int .i64 0] (n * 2)) 93)).ownsRow B 93 2 (.slice (some ⟨w.heap.size, 0, none⟩) 0 n) ([] : List (Int × Int)).length (flat2 []) :=
  World.ownsRow_made w _ n hB (by unfold maxLen; omega) (by simp [madeCells])
theorem joinG_length (r : List (Int × Int)) : ∀ c, (joinG c r).length ≤ r.length + 1 := by
  induction r with
  | nil => intro c; simp [joinG]
  | cons x r ih =>
    intro c
    unfold joinG
    split
    · have := ih (c.1, max c.2 x.2); simp only [List.length_cons]; omega
    · have := ih x; simp only [List.length_cons]; omega
theorem joinS_length (l : List (Int × Int)) : (joinS l).length ≤ l.length := by
  cases l with
  | nil => simp [joinS]
  | cons x r => have := joinG_length r x; simpa [joinS] using this
/-- how far the prefixes are right. -/
structure RightTo (l : List (Int × Int)) (i : Nat) : Prop where
  le : i ≤ l.length
  yes : ∀ j (h : j < l.length), j < i → rt l[j].1 l[j].2 = true
  no : ∀ h : i < l.length, rt l[i].1 l[i].2 = false
theorem spans_ne {l : List (Int × Int)} : ∀ s ∈ l.map spanOf, s.1 < s.2 := by
  intro s hs
  obtain ⟨p, -, rfl⟩ := List.mem_map.1 hs
  have := pw_pos p.2
  simp only [spanOf]
  omega

set_option linter.unusedVariables false in
set_option linter.unusedSimpArgs false in
set_option maxRecDepth 100000 in
set_option maxHeartbeats 8000000 in
theorem spansOf_any (l : List (Int × Int)) (i : Nat) (hR : RightTo l i) (p : Option Addr) (cap : Nat) (et eb es : Addr) (w : World) (hE : SetEnv w et eb es) (hs : Pairs w p l) (hl : l.length ≤ 1099511627776) :
    Calls Tryd.prog 60 #[.slice p l.length cap] w fun e w' => ((i = l.length ∧ ∃ S v, e = .returned (.tuple #[v, .nilIface]) ∧ Sep S ∧ (∀ x, inS S x ↔ inP l x) ∧ S.length ≤ l.length ∧ w'.ownsRow w.heap.size 93 2 v S.length (flat2 S)) ∨
      ∃ (h : i < l.length) (b : Nat), e = .returned (.tuple #[.slice none 0 0, .iface 29 (.pointer (some ⟨b, 0, none⟩))]) ∧ w'.heap[b]? = some (.cells #[.int .i64 i, chk l[i].1 l[i].2 eb es] 31 (0, 0))) ∧ Below w.heap.size w w' := by
  obtain ⟨i0, hi, hz0, hz1, hz2⟩ := info_parts infoSpan
  obtain ⟨B, hB⟩ : ∃ B, Hid (w.heap.size = B) := ⟨_, show _ = _ from rfl⟩
  have hmk := make_spans l.length w hl
  have hmo : Hid ((w.alloc (.cells (madeCells #[.int .i64 0, .int .i64 0] (l.length * 2)) 93)).ownsRow B 93 2 (.slice (some ⟨w.heap.size, 0, none⟩) 0 l.length) ([] : List (Int × Int)).length (flat2 [])) := made_spans l.length B w hl (by rw [← hB.out]; exact Nat.le_refl _)
  have hbo : Below B w (w.alloc (.cells (madeCells #[.int .i64 0, .int .i64 0] (l.length * 2)) 93)) := (Below.refl B w).alloc (by rw [← hB.out]; exact Nat.le_refl _) _
  have HE : Hid (SetEnv w et eb es) := hE
  have HS : Hid (Pairs w p l) := hs
  have HR : Hid (RightTo l i) := hR
  have hil := hR.le
  clear hs hE hR
  rw [show w.heap.size = B from hB.out]
  go_enter Tryd.func60, Tryd.ntmps60
  go_wp2
  go_loopw [4, 13] (fun v z wr => ∃ (k : Nat) (O : List (Int × Int)), z = .int .i64 k ∧ k ≤ i ∧ Hid (O = (l.take k).map spanOf) ∧ Hid (v ≠ .slice none 0 0) ∧ wr.ownsRow B 93 2 v O.length (flat2 O) ∧ Below B w wr) (fun _ z _ => l.length - (intOf z).toNat)
  case atStart => exact ⟨0, [], rfl, Nat.zero_le _, by simp [Hid], by simp [Hid], hmo.out, hbo⟩
  case round =>
    clear hmo hbo hmk
    obtain ⟨k, O, rfl, hki, HO, HV, hown, hnx⟩ := hrel
    have hBw : B ≤ wr.heap.size := by rw [← hB.out]; exact hnx.size
    have hOl : O.length ≤ l.length := by rw [HO.out]; simp; omega
    by_cases hlt : k < l.length
    · obtain ⟨b, o, rfl, c0, c1⟩ := HS.out k hlt
      have c0' : wr.cell? ⟨b, o + k * 2, none⟩ = some (.int .i64 l[k].1) := by rw [hnx.cell (by rw [← hB.out]; exact cell_lt' c0)]; exact c0
      have c1' : wr.cell? ⟨b, o + k * 2 + 1, none⟩ = some (.int .i64 l[k].2) := by rw [hnx.cell (by rw [← hB.out]; exact cell_lt' c1)]; exact c1
      have hbw : b < wr.heap.size := cell_lt' c0'
      clear c0 c1
      obtain ⟨a, ha⟩ : ∃ a, Hid (l[k].1 = a) := ⟨_, show _ = _ from rfl⟩
      obtain ⟨n, hn⟩ : ∃ n, Hid (l[k].2 = n) := ⟨_, show _ = _ from rfl⟩
      rw [show l[k].1 = a from ha.out] at c0'
      rw [show l[k].2 = n from hn.out] at c1'
      obtain ⟨b6, hb6⟩ : ∃ b6, Hid (wr.heap.size = b6) := ⟨_, show _ = _ from rfl⟩
      have hX0 : (wr.alloc (.cells #[.int .i64 a, .int .i64 n] 36)).heap[b6]? = some (.cells #[.int .i64 a, .int .i64 n] 36 (0, 0)) := by
        rw [← show wr.heap.size = b6 from hb6.out]; exact Go.heap_alloc_new wr _
      have hown1 := hown.alloc (.cells #[.int .i64 a, .int .i64 n] 36)
      have hnx1 := hnx.alloc hBw (.cells #[.int .i64 a, .int .i64 n] 36)
      have HC : Hid (Calls Tryd.prog 13 #[.agg #[.int .i64 a, .int .i64 n]] (wr.alloc (.cells #[.int .i64 a, .int .i64 n] 36)) fun r w' => r = .returned (chk a n eb es) ∧ Below (wr.alloc (.cells #[.int .i64 a, .int .i64 n] 36)).heap.size (wr.alloc (.cells #[.int .i64 a, .int .i64 n] 36)) w') := check_any a n et eb es _ (HE.out.at hnx1 hB.out).errs
      clear hown hnx
      by_cases hik : k < i
      · have hrt : rt a n = true := by have := HR.out.yes k hlt hik; rw [show l[k].1 = a from ha.out, show l[k].2 = n from hn.out] at this; exact this
        rw [chk_nil a n eb es hrt] at HC
        go_wp2_with fail
        refine HC.out.mono ?_
        rintro r w3 ⟨rfl, hb3⟩
        rw [show wr.heap.size = b6 from hb6.out]
        have hX3 : w3.heap[b6]? = some (.cells #[.int .i64 a, .int .i64 n] 36 (0, 0)) := by
          rw [hb3.block b6 (by rw [← hb6.out]; simp)]; exact hX0
        have hown3 := hown1.kept (w' := w3) (row := none) ⟨hb3.os, hb3.tape, hb3.output, hb3.size, fun k hk _ => hb3.block k hk⟩ (by cases u4.ownBlock <;> simp)
        have hnx3 := hnx1.trans (hb3.mono (by simp; omega))
        have hBw3 : B ≤ w3.heap.size := Nat.le_trans hBw (Nat.le_trans (by simp) hb3.size)
        have hE3 := (HE.out.at hnx3 hB.out).errs
        obtain ⟨p0, p1, -, -, hx6⟩ := row_cells hX3
        obtain ⟨sz, hsz⟩ : ∃ sz, Hid (sizeI a n = sz) := ⟨_, show _ = _ from rfl⟩
        have hsp : sz = pw n := by rw [← hsz.out]; simp [sizeI, hrt]
        obtain ⟨HSP⟩ : Nonempty (Hid (sz = pw n)) := ⟨hsp⟩
        clear hsp
        have hen := rt_end hrt
        have hra := ((rt_iff _ _).1 hrt).1
        have hpp : 1 ≤ sz ∧ a + sz ≤ 4294967296 := by rw [HSP.out]; exact ⟨pw_pos n, hen⟩
        have HSZ : Hid (∀ W : World, IpErrs W et eb es → Calls Tryd.prog 18 #[.agg #[.int .i64 a, .int .i64 n]] W fun r w' => r = .returned (.int .i64 sz) ∧ Below W.heap.size W w') := fun W hW => by rw [← hsz.out]; exact size_any a n et eb es W hW
        have hws : IntKind.i64.wrap (a + sz) = a + sz := wrapI _ (by omega) (by omega)
        clear HC hown1 hnx1 hX0 c0' c1' hen
        go_wp2
        refine wp_region_held_drew (S := (fun w' => w'.cell? ⟨b6, 0, none⟩ = some (.int .i64 a) ∧ w'.cell? ⟨b6, 1, none⟩ = some (.int .i64 n) ∧ IpErrs w' et eb es)) (by kernel_rfl) ?_ (fun hHeld => ?_)
        · exact ⟨p0, p1, hE3.drewN 1⟩
        refine wpAnyH_take (i := 0) (v := ?_) rfl (by kernel_rfl) (by kernel_rfl) (by kernel_rfl) (fun _ _ _ h => h) (Or.inl ⟨by rfl, ?_⟩) (by assumption) ?_
        rotate_left
        · (intro w hSw; (try dsimp only at hSw); go_simp; try (with_reducible rfl))
        try simp only [Act.put, List.setIfInBounds_toArray, List.set_cons_zero, List.set_cons_succ, List.getElem_toArray, List.getElem_cons_zero, List.getElem_cons_succ]
        refine wpAnyH_take (i := 1) (v := ?_) rfl (by kernel_rfl) (by kernel_rfl) (by kernel_rfl) (fun _ _ _ h => h) (Or.inl ⟨by rfl, ?_⟩) (by assumption) ?_
        rotate_left
        · (intro w hSw; (try dsimp only at hSw); go_simp; try (with_reducible rfl))
        try simp only [Act.put, List.setIfInBounds_toArray, List.set_cons_zero, List.set_cons_succ, List.getElem_toArray, List.getElem_cons_zero, List.getElem_cons_succ]
        refine wpAnyH_take (i := 2) (v := ?_) rfl (by kernel_rfl) (by kernel_rfl) (by kernel_rfl) (fun _ _ _ h => h) (Or.inl ⟨by rfl, ?_⟩) (by assumption) ?_
        rotate_left
        · (intro w hSw; (try dsimp only at hSw); go_simp; try (with_reducible rfl))
        try simp only [Act.put, List.setIfInBounds_toArray, List.set_cons_zero, List.set_cons_succ, List.getElem_toArray, List.getElem_cons_zero, List.getElem_cons_succ]
        refine wpAnyH_take (i := 3) (v := ?_) rfl (by kernel_rfl) (by kernel_rfl) (by kernel_rfl) (fun _ _ _ h => h) (Or.inl ⟨by rfl, ?_⟩) (by assumption) ?_
        rotate_left
        · (intro w hSw; (try dsimp only at hSw); go_simp; try (with_reducible rfl))
        try simp only [Act.put, List.setIfInBounds_toArray, List.set_cons_zero, List.set_cons_succ, List.getElem_toArray, List.getElem_cons_zero, List.getElem_cons_succ]
        refine wpAnyH_take (i := 4) (v := ?_) rfl (by kernel_rfl) (by kernel_rfl) (by kernel_rfl) (fun _ _ _ h => h) (Or.inl ⟨by rfl, ?_⟩) (by assumption) ?_
        rotate_left
        · (intro w hSw; (try dsimp only at hSw); go_simp; try (with_reducible rfl))
        try simp only [Act.put, List.setIfInBounds_toArray, List.set_cons_zero, List.set_cons_succ, List.getElem_toArray, List.getElem_cons_zero, List.getElem_cons_succ]
        refine wpAnyH_take (i := 5) (v := ?_) rfl (by kernel_rfl) (by kernel_rfl) (by kernel_rfl) (fun _ _ _ h => h) (Or.inl ⟨by rfl, ?_⟩) (by assumption) ?_
        rotate_left
        · (intro w hSw; (try dsimp only at hSw); go_simp; try (with_reducible rfl))
        try simp only [Act.put, List.setIfInBounds_toArray, List.set_cons_zero, List.set_cons_succ, List.getElem_toArray, List.getElem_cons_zero, List.getElem_cons_succ]
        refine wpAnyH_ready (rs := [6]) (by kernel_rfl) (by simp) ?_
        refine AllReadyH.cons rfl (fun K hK => ?_) AllReadyH.nil
        go_simp
        refine (HSZ.out _ hHeld.2.2).mono ?_
        rintro r w4 ⟨rfl, hb4⟩
        have hKeep := And.intro (cell_kept hb4 hHeld.1) (And.intro (cell_kept hb4 hHeld.2.1) (hHeld.2.2.below hb4))
        clear hHeld
        refine hK.out _ _ ?_ (fun hHeld => ?_)
        · exact hKeep
        clear hK K
        try simp only [Act.put, List.setIfInBounds_toArray, List.set_cons_zero, List.set_cons_succ, List.getElem_toArray, List.getElem_cons_zero, List.getElem_cons_succ]
        refine wpAnyH_take (i := 7) (v := ?_) rfl (by kernel_rfl) (by kernel_rfl) (by kernel_rfl) (fun _ _ _ h => h) (Or.inl ⟨by rfl, ?_⟩) (by assumption) ?_
        rotate_left
        · (intro w hSw; (try dsimp only at hSw); go_simp; try (with_reducible rfl))
        try simp only [Act.put, List.setIfInBounds_toArray, List.set_cons_zero, List.set_cons_succ, List.getElem_toArray, List.getElem_cons_zero, List.getElem_cons_succ]
        refine wpAnyH_take (i := 8) (v := ?_) rfl (by kernel_rfl) (by kernel_rfl) (by kernel_rfl) (fun _ _ _ h => h) (Or.inl ⟨by rfl, ?_⟩) (by assumption) ?_
        rotate_left
        · (intro w hSw; (try dsimp only at hSw); go_simp; try (with_reducible rfl))
        try simp only [Act.put, List.setIfInBounds_toArray, List.set_cons_zero, List.set_cons_succ, List.getElem_toArray, List.getElem_cons_zero, List.getElem_cons_succ]
        refine wpAnyH_ready (rs := [9]) (by kernel_rfl) (by simp) ?_
        refine AllReadyH.cons rfl (fun K hK => ?_) AllReadyH.nil
        go_simp
        have hKeep := And.intro (cell_kept (below_alloc w4 (.cells #[.int .i64 a, .int .i64 (a + sz)] 93)) hHeld.1) (And.intro (cell_kept (below_alloc w4 (.cells #[.int .i64 a, .int .i64 (a + sz)] 93)) hHeld.2.1) (hHeld.2.2.below (below_alloc w4 (.cells #[.int .i64 a, .int .i64 (a + sz)] 93))))
        clear hHeld
        refine hK.out _ _ ?_ (fun hHeld => ?_)
        · exact hKeep
        clear hK K hKeep
        try simp only [Act.put, List.setIfInBounds_toArray, List.set_cons_zero, List.set_cons_succ, List.getElem_toArray, List.getElem_cons_zero, List.getElem_cons_succ]
        have hb4' : Below w3.heap.size w3 w4 := (below_drewN (Below.refl _ w3) 1).trans hb4
        have hX4 : w4.heap[b6]? = some (.cells #[.int .i64 a, .int .i64 n] 36 (0, 0)) := by rw [hb4'.block b6 hx6]; exact hX3
        have hown4 := hown3.kept (w' := w4) (row := none) ⟨hb4'.os, hb4'.tape, hb4'.output, hb4'.size, fun k hk _ => hb4'.block k hk⟩ (by cases u4.ownBlock <;> simp)
        have hnx4 : Below B w w4 := hnx3.trans (hb4'.mono hBw3)
        have hBw4 : B ≤ w4.heap.size := Nat.le_trans hBw3 hb4'.size
        obtain ⟨O', HO'⟩ : ∃ O', Hid (O ++ [(a, a + sz)] = O') := ⟨_, show _ = _ from rfl⟩
        refine wpAnyH_ready (rs := [10]) (by kernel_rfl) (by simp) ?_
        refine AllReadyH.cons rfl (fun K hK => ?_) AllReadyH.nil
        rw [if_pos (by rfl)]
        refine op_push (.tmp 27) (.tmp 36) 85 rfl B 93 i0 Tryd.underlying85 hi hz0 hz1 hz2 _ O rfl hown4 a (a + sz) _ rfl (by simp) O' HO' (by omega) hBw4 ?_
        intro v' w5 hown5 hb5 hk5
        have hX5 : w5.heap[b6]? = some (.cells #[.int .i64 a, .int .i64 n] 36 (0, 0)) := by rw [hk5.1 b6 (row_cells hX4).2.2.2.2 (box_apart hown4 hX4 (by decide))]; exact hX4
        have hnx5 := hnx4.trans hb5
        have hKeep := And.intro (row_cells hX5).1 (And.intro (row_cells hX5).2.1 (HE.out.at hnx5 hB.out).errs)
        have HV' : Hid (v' ≠ .slice none 0 0) := hk5.2
        clear hHeld hk5 hX5 hX4 hown4 hb5 hnx4 hb4' hb4
        refine hK.out _ _ ?_ (fun hHeld => ?_)
        · exact hKeep
        clear hK K hKeep
        try simp only [Act.put, List.setIfInBounds_toArray, List.set_cons_zero, List.set_cons_succ, List.getElem_toArray, List.getElem_cons_zero, List.getElem_cons_succ]
        refine wpAnyH_take (i := 11) (v := ?_) rfl (by kernel_rfl) (by kernel_rfl) (by kernel_rfl) (fun _ _ _ h => h) (Or.inl ⟨by rfl, ?_⟩) (by assumption) ?_
        rotate_left
        · (intro w hSw; (try dsimp only at hSw); go_simp; try (with_reducible rfl))
        try simp only [Act.put, List.setIfInBounds_toArray, List.set_cons_zero, List.set_cons_succ, List.getElem_toArray, List.getElem_cons_zero, List.getElem_cons_succ]
        refine wpAnyH_done (by kernel_rfl) ?_ _
        clear hHeld hX3 hown3 hnx3 hE3 p0 p1 HSZ hb3
        go_wp2
        go_roundw
        case rel =>
          refine ⟨k + 1, O', by go_num, by omega, ?_, HV', hown5, hnx5⟩
          rw [Hid, ← HO'.out, HO.out, HSP.out, ← ha.out, ← hn.out]
          exact take_step l k hlt
        case measure => simp [intOf]; omega
      · have hki' : k = i := by omega
        subst hki'
        have hrt : rt a n = false := by have := HR.out.no hlt; rw [show l[k].1 = a from ha.out, show l[k].2 = n from hn.out] at this; exact this
        obtain ⟨x, hx⟩ := chk_err a n eb es hrt
        obtain ⟨HX⟩ : Nonempty (Hid (chk l[k].1 l[k].2 eb es = .iface 72 (.pointer (some x)))) := ⟨by rw [Hid, show l[k].1 = a from ha.out, show l[k].2 = n from hn.out]; exact hx⟩
        rw [hx] at HC
        go_wp2_with fail
        refine HC.out.mono ?_
        rintro r w3 ⟨rfl, hb3⟩
        have hnx3 := hnx1.trans (hb3.mono (by simp; omega))
        have hBw3 : B ≤ w3.heap.size := Nat.le_trans hBw (Nat.le_trans (by simp) hb3.size)
        have hnx4 := hnx3.alloc hBw3 (.cells #[.int .i64 (k : Int), .iface 72 (.pointer (some x))] 31)
        clear HC hown1 hnx1 hX0 c0' c1' hx hb3 hnx3
        go_wp2
        refine bodyPost_ret (v := .tuple #[.slice none 0 0, .iface 29 (.pointer (some ⟨w3.heap.size, 0, none⟩))]) (by simp [results, Tryd.results60, go_sem]) rfl ⟨.inr ⟨hlt, w3.heap.size, rfl, ?_⟩, hnx4⟩
        rw [HX.out]
        exact Go.heap_alloc_new w3 _
    · have hil' : i = l.length := by omega
      have hkl : k = l.length := by omega
      have hOe : O = l.map spanOf := by rw [HO.out, hkl, List.take_length]
      obtain ⟨g, cap2, hv, hgc, hcm, hBg, hgw⟩ : ∃ g cap2, u4 = .slice (some ⟨g, 0, none⟩) O.length cap2 ∧ O.length ≤ cap2 ∧ cap2 ≤ maxLen ∧ B ≤ g ∧ g < wr.heap.size := by
        rcases hown.2 with ⟨hv, -⟩ | ⟨g, cap2, cur, hv, hb, hg, h1, h2, h3, h4⟩
        · exact absurd hv HV.out
        · exact ⟨g, cap2, hv, h1, h2, hb, (Array.getElem?_eq_some_iff.1 hg).1⟩
      subst hv
      have HSO := sort_own O B g cap2 wr hown hBg hgw (by omega) (by rw [hOe]; exact spans_ne)
      obtain ⟨HSO'⟩ : Nonempty (Hid (Calls _ _ _ _ _)) := ⟨HSO⟩
      obtain ⟨HI⟩ : Nonempty (Hid (i = l.length ∧ O = l.map spanOf)) := ⟨⟨hil', hOe⟩⟩
      clear HSO hown hil' hkl hOe HV
      go_wp2_with fail
      refine HSO'.out.mono ?_
      rintro r w2 ⟨rfl, L', hperm, hrise, hlen, hpairs, hb2⟩
      obtain ⟨HP⟩ : Nonempty (Hid (L'.Perm O ∧ Rise L')) := ⟨⟨hperm, hrise⟩⟩
      have HJ : Hid (Calls Tryd.prog 81 #[.slice (some ⟨g, 0, none⟩) O.length cap2] w2 fun e w' => (∃ v, e = .returned v ∧ w'.ownsRow w2.heap.size 93 2 v (joinS L').length (flat2 (joinS L'))) ∧ Below w2.heap.size w2 w') := by
        have := joined_any L' (some ⟨g, 0, none⟩) cap2 w2 hpairs (by omega)
        rw [hlen] at this
        exact this
      have hnx2 := hnx.trans hb2
      have hBw2 : B ≤ w2.heap.size := by rw [← hB.out]; exact hnx2.size
      clear hperm hrise hpairs hb2 HSO'
      go_wp2_with fail
      refine HJ.out.mono ?_
      rintro r w3 ⟨⟨v, rfl, hown3⟩, hb3⟩
      have hnx3 := hnx2.trans (hb3.mono hBw2)
      obtain ⟨S, hS⟩ : ∃ S, Hid (joinS L' = S) := ⟨_, show _ = _ from rfl⟩
      rw [show joinS L' = S from hS.out] at hown3
      have hown4 := own_mono hown3 hBw2
      clear hown3
      go_wp2
      refine bodyPost_ret (v := .tuple #[v, .nilIface]) (by simp [results, Tryd.results60, go_sem]) rfl ⟨.inl ⟨HI.out.1, S, _, rfl, ?_, ?_, ?_, hown4⟩, hnx3⟩
      · rw [← hS.out]; exact (joinS_sep L' HP.out.2).1
      · intro x
        rw [← hS.out, (joinS_sep L' HP.out.2).2, inP_spans, ← HI.out.2]
        unfold inS
        simp only [HP.out.1.mem_iff]
      · rw [← hS.out]
        have h1 := joinS_length L'
        rw [hlen, HI.out.2, List.length_map] at h1
        exact h1
end Go.Proofs.YthehpnhjfnenoaaDoor
