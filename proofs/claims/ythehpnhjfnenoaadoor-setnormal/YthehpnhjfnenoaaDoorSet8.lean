/-
  Package set's edgesOf: what it returns.
-/
import Derived.Test.YthehpnhjfnenoaaDoorSet7
namespace Go.Proofs.YthehpnhjfnenoaaDoor
open Go.RowKit Go.Sort Go.Lib

/-- the edges of the first k of two lists. -/
def edgesK (X Y : List (Int × Int)) (k : Nat) : List Int := if k = 0 then [] else if k = 1 then edgesL X else edgesL X ++ edgesL Y
theorem own_ints {w : World} {B : Nat} {e : TypeId} {v : Value} {E : List Int} (h : w.ownsRow B e 1 v E.length (intsV E)) : ∃ p cap, v = .slice p E.length cap ∧ E.length ≤ cap ∧ cap ≤ maxLen := by
  rcases h.2 with ⟨hv, h0⟩ | ⟨g, cap, cur, hv, hb, hg, h1, h2, h3, h4⟩
  · have : E = [] := List.eq_nil_of_length_eq_zero h0
    subst this
    exact ⟨none, 0, hv, by simp, by simp⟩
  · exact ⟨some ⟨g, 0, none⟩, cap, hv, h1, h2⟩
/-- slices.Sort, then slices.Compact, at an own row of numbers. -/
theorem ints_of_put {w : World} {g : Nat} {F : Array Int} {E : List Int} {R : List Int} (hF : F = (E ++ R).toArray) (h : Holds (Value.int .i64) w g 0 F) : Ints w (some ⟨g, 0, none⟩) E := by
  intro i hi
  subst hF
  have := (h i (by simp; omega)).1
  refine ⟨g, 0, rfl, ?_⟩
  rw [this, getElem!_pos (E ++ R).toArray i (by simp; omega)]
  simp [List.getElem_append_left hi]
theorem grown_putI {w : World} {g n : Nat} {os : Array Obj} (F : Array Int) : w.grownBy (grow (putRow (Value.int .i64) (Sort.ahead w n) g 0 F) os) (some g) := grownBy_sortedI F
theorem sortI_length (zs : List Int) : (sortI zs).length = zs.length := List.length_mergeSort zs

/-- slices.Sort at an own row of numbers, which is not nil. -/
theorem sort_ints (O : List Int) (B g cap : Nat) (w : World) (hown : w.ownsRow B 3 1 (.slice (some ⟨g, 0, none⟩) O.length cap) O.length (intsV O)) (hl : O.length ≤ 4398046511104) :
    Calls Tryd.prog 122 #[.slice (some ⟨g, 0, none⟩) O.length cap] w fun e w' => e = .returned (.tuple #[]) ∧ w'.ownsRow B 3 1 (.slice (some ⟨g, 0, none⟩) O.length cap) O.length (intsV (sortI O)) ∧ Below B w w' := by
  rcases hown.2 with ⟨hv, -⟩ | ⟨g', cap', cur, hv, hb, hg, h1, h2, h3, h4⟩
  · cases hv
  · simp only [Value.slice.injEq, Option.some.injEq, Addr.mk.injEq, and_true, true_and] at hv
    obtain ⟨rfl, rfl⟩ := hv
    have hglt : g < w.heap.size := (Array.getElem?_eq_some_iff.1 hg).1
    refine (Tryd.slices_Sort_int g 0 cap O w (holds_of_blockI hg (by rw [Nat.mul_one] at h4; exact h4)) hglt (by omega)).mono ?_
    rintro e w' ⟨he, n, os, hw⟩
    refine ⟨he, ?_, ?_⟩
    · rw [hw]
      exact ownsRow_sortedI (sortI_length O) hb hg h1 h2 h3
    · rw [hw]
      exact (Below.refl B w).grown (grown_putI _) (by omega) (fun k hk => by cases hk; exact hb)
/-- slices.Compact at an own row of numbers, which is not nil. -/
theorem compact_ints (O : List Int) (B g cap n : Nat) (w : World) (hn : n = O.length) (hown : w.ownsRow B 3 1 (.slice (some ⟨g, 0, none⟩) n cap) n (intsV O)) (hl : O.length ≤ 4398046511104) :
    Calls Tryd.prog 123 #[.slice (some ⟨g, 0, none⟩) n cap] w fun e w' => e = .returned (.slice (some ⟨g, 0, none⟩) (compact O).length cap) ∧ Ints w' (some ⟨g, 0, none⟩) (compact O) ∧ Below B w w' := by
  subst hn
  rcases hown.2 with ⟨hv, -⟩ | ⟨g', cap', cur, hv, hb, hg, h1, h2, h3, h4⟩
  · cases hv
  · simp only [Value.slice.injEq, Option.some.injEq, Addr.mk.injEq, and_true, true_and] at hv
    obtain ⟨rfl, rfl⟩ := hv
    have hglt : g < w.heap.size := (Array.getElem?_eq_some_iff.1 hg).1
    have hH : Holds (Value.int .i64) w g 0 O.toArray := holds_of_blockI hg (by rw [Nat.mul_one] at h4; exact h4)
    refine (Tryd.slices_Compact_int g 0 cap O w hH (by omega) h1).mono ?_
    rintro e w' ⟨he, q, hw⟩
    have hcl := compact_length_le O
    refine ⟨he, ?_, ?_⟩
    · rw [hw]
      exact ints_of_put rfl (holds_putRow _ (Sort.ahead w q) g 0 O.toArray _ hH (by simp; omega))
    · rw [hw, ← grow_empty (putRow _ _ _ _ _)]
      exact (Below.refl B w).grown (grown_putI _) (by omega) (fun k hk => by cases hk; exact hb)

set_option linter.unusedVariables false in
set_option maxRecDepth 100000 in
set_option maxHeartbeats 8000000 in
theorem edgesOf_any (X Y : List (Int × Int)) (px py : Option Addr) (cx cy : Nat) (w : World) (hx : Pairs w px X) (hy : Pairs w py Y) (hX : X.length ≤ 1099511627776) (hY : Y.length ≤ 1099511627776) :
    Calls Tryd.prog 97 #[.slice px X.length cx, .slice py Y.length cy] w fun e w' => (∃ E p c, e = .returned (.slice p E.length c) ∧ Up1 E ∧ (∀ z, z ∈ E ↔ z ∈ edgesL X ++ edgesL Y) ∧ E.length ≤ X.length * 2 + Y.length * 2 ∧ Ints w' p E) ∧ Below w.heap.size w w' := by
  obtain ⟨i0, hi, hz0, hz1, hz2⟩ := info_parts infoInt
  obtain ⟨B, hB⟩ : ∃ B, Hid (w.heap.size = B) := ⟨_, show _ = _ from rfl⟩
  have HPX : Hid (Pairs w px X) := hx
  have HPY : Hid (Pairs w py Y) := hy
  have hbw : Below B w (w.alloc (.cells #[.slice px X.length cx, .slice py Y.length cy] 85)) := (Below.refl B w).alloc (by rw [← hB.out]; exact Nat.le_refl _) _
  have hX0 : Hid ((w.alloc (.cells #[.slice px X.length cx, .slice py Y.length cy] 85)).heap[B]? = some (.cells #[.slice px X.length cx, .slice py Y.length cy] 85 (0, 0))) := by
    rw [← show w.heap.size = B from hB.out]; exact Go.heap_alloc_new w _
  clear hx hy
  rw [show w.heap.size = B from hB.out]
  go_enter Tryd.func97, Tryd.ntmps97
  go_wp2
  rw [show w.heap.size = B from hB.out]
  go_loopw [5, 14] (fun v z wr => ∃ (k : Nat) (O : List Int), z = .int .i64 k ∧ k ≤ 2 ∧ Hid (O = edgesK X Y k) ∧ Hid (wr.heap[B]? = some (.cells #[.slice px X.length cx, .slice py Y.length cy] 85 (0, 0))) ∧ wr.ownsRow B 3 1 v O.length (intsV O) ∧ Below B w wr) (fun _ z _ => 2 - (intOf z).toNat)
  case atStart => exact ⟨0, [], rfl, by omega, by simp [Hid, edgesK], hX0.out, World.ownsRow_nil _ _ _ _, hbw⟩
  case round =>
    clear hX0 hbw
    obtain ⟨k, O, rfl, hk, HO, HB, hown, hnx⟩ := hrel
    have hBw : B < wr.heap.size := (Array.getElem?_eq_some_iff.1 HB.out).1
    by_cases hlt : k < 2
    · obtain ⟨Z, pz, cz, hcell, HZ, HE, hZl⟩ : ∃ Z pz cz, wr.cell? ⟨B, k, none⟩ = some (.slice pz Z.length cz) ∧ Hid (Pairs w pz Z) ∧ Hid (edgesK X Y (k + 1) = edgesK X Y k ++ edgesL Z) ∧ Z.length ≤ 1099511627776 := by
        have r := row_cells HB.out
        have hk2 : k = 0 ∨ k = 1 := by omega
        rcases hk2 with rfl | rfl
        · exact ⟨X, px, cx, r.1, HPX, by simp [Hid, edgesK], hX⟩
        · exact ⟨Y, py, cy, r.2.1, HPY, by simp [Hid, edgesK], hY⟩
      have hOl : O.length ≤ 2199023255552 := by
        rw [HO.out]
        unfold edgesK
        have h1 := edgesL_length X
        have h2 := edgesL_length Y
        split
        · simp
        · split
          · omega
          · omega
      have hlt' : (k : Int) < 2 := by omega
      go_wp2
      go_loopw [5, 20] (fun v z wx => ∃ (j : Nat) (O2 : List Int), z = .int .i64 j ∧ j ≤ Z.length ∧ Hid (O2 = O ++ edgesL (Z.take j)) ∧ Hid (wx.heap[B]? = some (.cells #[.slice px X.length cx, .slice py Y.length cy] 85 (0, 0))) ∧ wx.ownsRow B 3 1 v O2.length (intsV O2) ∧ Below B w wx) (fun _ z _ => Z.length - (intOf z).toNat)
      case atStart => exact ⟨0, O, rfl, Nat.zero_le _, by simp [Hid, edgesL], HB.out, hown, hnx⟩
      case round =>
        clear hcell hown hnx HB hBw
        obtain ⟨j, O2, rfl, hj, HO2, HB, hown, hnx⟩ := hrel
        have hBw : B < wr.heap.size := (Array.getElem?_eq_some_iff.1 HB.out).1
        have hO2l : O2.length ≤ 4398046511104 := by
          rw [HO2.out, List.length_append, edgesL_length, List.length_take]; omega
        by_cases hjl : j < Z.length
        · obtain ⟨b, o, rfl, c0, c1⟩ := HZ.out j hjl
          have c0' : wr.cell? ⟨b, o + j * 2, none⟩ = some (.int .i64 Z[j].1) := by rw [hnx.cell (by rw [← hB.out]; exact cell_lt' c0)]; exact c0
          have c1' : wr.cell? ⟨b, o + j * 2 + 1, none⟩ = some (.int .i64 Z[j].2) := by rw [hnx.cell (by rw [← hB.out]; exact cell_lt' c1)]; exact c1
          have hbw : b < wr.heap.size := cell_lt' c0'
          clear c0 c1
          obtain ⟨z0, hz0'⟩ : ∃ z, Hid (Z[j].1 = z) := ⟨_, show _ = _ from rfl⟩
          obtain ⟨z1, hz1'⟩ : ∃ z, Hid (Z[j].2 = z) := ⟨_, show _ = _ from rfl⟩
          rw [show Z[j].1 = z0 from hz0'.out] at c0'
          rw [show Z[j].2 = z1 from hz1'.out] at c1'
          have hown1 := hown.alloc (.cells #[.int .i64 z0, .int .i64 z1] 93)
          have hnx1 := hnx.alloc (Nat.le_of_lt hBw) (.cells #[.int .i64 z0, .int .i64 z1] 93)
          have hB1 : (wr.alloc (.cells #[.int .i64 z0, .int .i64 z1] 93)).heap[B]? = some (.cells #[.slice px X.length cx, .slice py Y.length cy] 85 (0, 0)) := by rw [Below.heap_alloc _ _ _ hBw]; exact HB.out
          have hap := box_apart1 hown1 hB1 (by decide)
          obtain ⟨O', HO'⟩ : ∃ O', Hid (O2 ++ [z0, z1] = O') := ⟨_, show _ = _ from rfl⟩
          go_wp2_with (at_builtin; refine wp_push2 rfl _ _ 22 rfl B 3 i0 Tryd.underlying22 hi hz0 hz1 hz2 _ O2 rfl hown1 z0 z1 _ rfl (by simp) O' HO' hO2l (by simp; omega) ?_)
          rintro v' w3 hown3 hb3 hkeep
          have hnx3 := hnx1.trans hb3
          have hB3 : Hid (w3.heap[B]? = some (.cells #[.slice px X.length cx, .slice py Y.length cy] 85 (0, 0))) := by rw [Hid, hkeep.1 B (by simp; omega) hap]; exact hB1
          clear hkeep hown hown1 hnx hnx1 hB1 c0' c1' hb3 HB
          go_wp2
          go_roundw
          case rel =>
            refine ⟨j + 1, O', by go_num, by omega, ?_, hB3.out, hown3, hnx3⟩
            rw [Hid, ← HO'.out, HO2.out, ← hz0'.out, ← hz1'.out, List.append_assoc, edgesL_take Z j hjl]
          case measure => simp [intOf]; omega
        · have hjz : j = Z.length := by omega
          obtain ⟨HO3⟩ : Nonempty (Hid (O2 = edgesK X Y (k + 1))) := ⟨by rw [Hid, HO2.out, hjz, List.take_length, HE.out, HO.out]⟩
          clear hjz
          go_wp2
          go_roundw
          case rel => exact ⟨k + 1, O2, by go_num, by omega, HO3.out, HB.out, hown, hnx⟩
          case measure => simp [intOf]; omega
    · have hk2 : k = 2 := by omega
      have hOe : O = edgesL X ++ edgesL Y := by rw [HO.out, hk2]; simp [edgesK]
      have hOll : O.length = X.length * 2 + Y.length * 2 := by rw [hOe, List.length_append, edgesL_length, edgesL_length]
      have hOl : O.length ≤ 4398046511104 := by omega
      obtain ⟨HOE⟩ : Nonempty (Hid (O = edgesL X ++ edgesL Y)) := ⟨hOe⟩
      obtain ⟨HOL⟩ : Nonempty (Hid (O.length = X.length * 2 + Y.length * 2)) := ⟨hOll⟩
      clear hOll
      obtain ⟨p, cap2, hv, hgc, hcm⟩ := own_ints hown
      subst hv
      clear hOe HO
      cases p with
      | none =>
        have hO0 : O = [] := by
          rcases hown.2 with ⟨-, h0⟩ | ⟨g, cap, cur, hv, -⟩
          · exact List.eq_nil_of_length_eq_zero h0
          · cases hv
        subst hO0
        go_wp2_with (first | (go_at_call 122; refine (Tryd.slices_Sort_int_none none cap2 _).mono ?_; rintro e w' ⟨rfl, rfl⟩) | (go_at_call 123; refine (Tryd.slices_Compact_int_empty none cap2 _).mono ?_; rintro e w' ⟨rfl, rfl⟩))
        go_ret
        exact ⟨⟨[], none, cap2, rfl, trivial, fun z => by rw [← HOE.out], by simp, fun i hi => by simp at hi⟩, hnx⟩
      | some ad =>
        obtain ⟨g, rfl⟩ : ∃ g, ad = ⟨g, 0, none⟩ := by
          rcases hown.2 with ⟨hv, -⟩ | ⟨g, cap, cur, hv, -⟩
          · cases hv
          · simp only [Value.slice.injEq, Option.some.injEq] at hv
            exact ⟨g, hv.1⟩
        have hBw2 : B ≤ wr.heap.size := Nat.le_of_lt hBw
        obtain ⟨HSO⟩ : Nonempty (Hid (Calls _ _ _ _ _)) := ⟨sort_ints O B g cap2 wr hown hOl⟩
        clear hown HB
        go_wp2_with fail
        refine HSO.out.mono ?_
        rintro e w2 ⟨rfl, hown2, hb2⟩
        obtain ⟨HCO⟩ : Nonempty (Hid (Calls _ _ _ _ _)) := ⟨compact_ints (sortI O) B g cap2 O.length w2 (sortI_length O).symm hown2 (by rw [sortI_length]; exact hOl)⟩
        have hnx2 := hnx.trans hb2
        clear hown2 hb2 HSO hnx
        go_wp2_with fail
        refine HCO.out.mono ?_
        rintro e w3 ⟨rfl, hints, hb3⟩
        have hnx3 := hnx2.trans hb3
        have hcs := compact_sorted O
        obtain ⟨E, hE⟩ : ∃ E, Hid (compact (sortI O) = E) := ⟨_, show _ = _ from rfl⟩
        have hcl := compact_length_le (sortI O)
        rw [sortI_length] at hcl
        rw [show compact (sortI O) = E from hE.out] at hints hcs hcl ⊢
        obtain ⟨HC⟩ : Nonempty (Hid (Up1 E ∧ ∀ x, x ∈ E ↔ x ∈ O)) := ⟨hcs⟩
        clear hcs HCO hb3 hnx2
        go_wp2
        go_ret
        exact ⟨⟨E, _, _, rfl, HC.out.1, fun z => by rw [HC.out.2, HOE.out], by have := HOL.out; omega, hints⟩, hnx3⟩
end Go.Proofs.YthehpnhjfnenoaaDoor
