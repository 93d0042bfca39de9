/-
  The document's answer, chapter 1 (herepathref1): ReadPrefix: what it returns, at every text shorter than 2 to the 32 bytes; and that ip.Read comes to the same.
-/
import Derived.Test.YthehpnhjfnenoaaDoorRefTie
import Derived.Test.YthehpnhjfnenoaaDoorIp3
import Derived.Test.YthehpnhjfnenoaaDoorRef3
namespace Go.Proofs.YthehpnhjfnenoaaDoor
open Go.RowKit

/-- what ReadPrefix comes to, off the words around the slash. -/
def rdR : List (List UInt8) → Int × Int × Nat
  | [x0, x1] => match rd4 (parts 46 [] x0) with
    | none => (0, 0, 1)
    | some a => if 0 ≤ numR x1 then (if chkC a (numR x1) = 0 then (a, numR x1, 0) else (0, 0, chkC a (numR x1))) else (0, 0, 1)
  | _ => (0, 0, 1)
theorem rdR_len {ps : List (List UInt8)} (h : ¬ ps.length = 2) : rdR ps = (0, 0, 1) := by
  match ps, h with
  | [], _ => rfl
  | [_], _ => rfl
  | [_, _], h => simp at h
  | _ :: _ :: _ :: _, _ => rfl
theorem rdR_cases (ps : List (List UInt8)) : (¬ ps.length = 2 ∧ rdR ps = (0, 0, 1)) ∨ ∃ x0 x1, ps = [x0, x1] ∧ ((rd4 (parts 46 [] x0) = none ∧ rdR ps = (0, 0, 1)) ∨
    ∃ a, rd4 (parts 46 [] x0) = some a ∧ ((numR x1 < 0 ∧ rdR ps = (0, 0, 1)) ∨ (0 ≤ numR x1 ∧ ((chkC a (numR x1) = 0 ∧ rdR ps = (a, numR x1, 0)) ∨ (0 < chkC a (numR x1) ∧ rdR ps = (0, 0, chkC a (numR x1))))))) := by
  by_cases h : ps.length = 2
  · right
    match ps, h with
    | [x0, x1], _ =>
      refine ⟨x0, x1, rfl, ?_⟩
      cases hr : rd4 (parts 46 [] x0) with
      | none => exact Or.inl ⟨rfl, by simp [rdR, hr]⟩
      | some a =>
        refine Or.inr ⟨a, rfl, ?_⟩
        by_cases hn : 0 ≤ numR x1
        · refine Or.inr ⟨hn, ?_⟩
          by_cases hc : chkC a (numR x1) = 0
          · exact Or.inl ⟨hc, by simp [rdR, hr, hn, hc]⟩
          · exact Or.inr ⟨by omega, by simp [rdR, hr, hn, hc]⟩
        · exact Or.inl ⟨by omega, by simp [rdR, hr, hn]⟩
  · exact Or.inl ⟨h, rdR_len h⟩
theorem okNum_slash {l : List UInt8} (h : 47 ∈ l) : okNum l = false := by
  apply okNum_not
  rw [List.all_eq_false]
  exact ⟨47, h, by decide⟩
theorem okNum_numR (l : List UInt8) : (okNum l = true ∧ 0 ≤ numR l ∧ numR l = numOf l) ∨ (okNum l = false ∧ ¬ 0 ≤ numR l) := by
  cases h : okNum l with
  | true => refine Or.inl ⟨rfl, ?_, by rw [numR_yes h, numOf_yes h]⟩; rw [numR_yes h, ← numOf_yes h]; exact (numOf_bounds l).1
  | false => exact Or.inr ⟨rfl, by rw [numR_not h]; omega⟩
theorem rdP_form (s : ByteArray) {x y : List UInt8} {b : Bool} (h : Lib.cut s.data.toList [47] = (x, y, b)) : rdP s = match rdAddr (bytesL x) with | none => (0, 0, 1) | some a => if okNum y = true then (if chkC a (numOf y) = 0 then (a, numOf y, 0) else (0, 0, chkC a (numOf y))) else (0, 0, 1) := by
  unfold rdP
  rw [h]
  rfl
theorem rdR_two (x y : List UInt8) : rdR [x, y] = match rd4 (parts 46 [] x) with | none => (0, 0, 1) | some a => if 0 ≤ numR y then (if chkC a (numR y) = 0 then (a, numR y, 0) else (0, 0, chkC a (numR y))) else (0, 0, 1) := rfl
theorem cut_miss (l : List UInt8) (h : 47 ∉ l) : Lib.cut l [47] = (l, [], false) := by
  unfold Lib.cut
  have := idx_none 47 l h
  rw [this, if_neg (by omega)]
theorem rdP_rdR (l : List UInt8) : rdP (bytesL l) = rdR (parts 47 [] l) := by
  have hl : (bytesL l).data.toList = l := by simp [bytesL]
  rcases first_at 47 l with h | ⟨x, y, rfl, h⟩
  · rw [rdP_form (bytesL l) (x := l) (y := []) (b := false) (by rw [hl]; exact cut_miss l h), parts_miss 47 [] l h, rdR_len (by simp), show okNum [] = false from rfl]
    cases rdAddr (bytesL l) <;> simp
  · rw [rdP_form _ (x := x) (y := y) (b := true) (by rw [hl]; exact cut_hit x y h), parts_hit 47 [] x y h, rd4_eq x]
    rcases first_at 47 y with hy | ⟨u, v, rfl, hu⟩
    · rw [parts_miss 47 [] y hy]
      show _ = rdR [x, y]
      rw [rdR_two]
      cases rd4 (parts 46 [] x) with
      | none => rfl
      | some a =>
        rcases okNum_numR y with ⟨h1, h2, h3⟩ | ⟨h1, h2⟩
        · show (if okNum y = true then _ else _) = (if 0 ≤ numR y then _ else _)
          rw [if_pos h1, if_pos h2, h3]
        · show (if okNum y = true then _ else _) = (if 0 ≤ numR y then _ else _)
          rw [if_neg (by rw [h1]; decide), if_neg h2]
    · have hlen := (parts_length 47 [] v).1
      rw [parts_hit 47 [] u v hu, rdR_len (by simp only [List.length_cons]; omega), okNum_slash (l := u ++ 47 :: v) (by simp)]
      cases rd4 (parts 46 [] x) <;> simp

theorem rReadAddr_none (x : List UInt8) (w : World) (hs : x.length < 4294967281) (h : rd4 (parts 46 [] x) = none) :
    Calls Tryd.prog 24 #[strV x] w fun e w' => e = .returned (.tuple #[.int .i64 0, .bool false]) ∧ Below w.heap.size w w' := by
  have := rReadAddr_any (bytesL x) w (by show x.toArray.size < _; rw [List.size_toArray]; exact hs)
  rw [show (bytesL x).data.toList = x from by simp [bytesL], h] at this
  exact this
theorem rReadAddr_some (x : List UInt8) (a : Int) (w : World) (hs : x.length < 4294967281) (h : rd4 (parts 46 [] x) = some a) :
    Calls Tryd.prog 24 #[strV x] w fun e w' => e = .returned (.tuple #[.int .i64 a, .bool true]) ∧ Below w.heap.size w w' := by
  have := rReadAddr_any (bytesL x) w (by show x.toArray.size < _; rw [List.size_toArray]; exact hs)
  rw [show (bytesL x).data.toList = x from by simp [bytesL], h] at this
  exact this

set_option linter.unusedVariables false in
set_option maxRecDepth 100000 in
set_option maxHeartbeats 4000000 in
theorem rReadPrefix_any (s : ByteArray) (x y : Int) (c : Nat) (w : World) (hs : s.size < 4294967281) (hR : Hid (rdR (parts 47 [] s.data.toList) = (x, y, c))) :
    Calls Tryd.prog 27 #[.string s] w fun e w' => e = .returned (.tuple #[.agg #[.int .i64 x, .int .i64 y], .int .i64 c]) ∧ Below w.heap.size w w' := by
  have HS : ∀ w : World, Hid (Calls Tryd.prog 55 #[.string s, .int .u8 47] w fun e w' => (∃ v, e = .returned v ∧ w'.ownsRow w.heap.size 9 1 v (parts 47 [] s.data.toList).length ((parts 47 [] s.data.toList).map strV)) ∧ Below w.heap.size w w') := fun w => rCut_any s 47 w hs
  have hpl := parts_length 47 [] s.data.toList
  have HZ : Hid (∀ x ∈ parts 47 [] s.data.toList, x.length < 4294967281) := fun x hx => by
    have := parts_size 47 [] s.data.toList x hx
    rw [len_data] at this
    simp at this
    omega
  rw [len_data] at hpl
  have hcs := rdR_cases (parts 47 [] s.data.toList)
  rw [show rdR (parts 47 [] s.data.toList) = (x, y, c) from hR.out] at hcs
  obtain ⟨ps, hps⟩ : ∃ ps, Hid (parts 47 [] s.data.toList = ps) := ⟨_, show _ = _ from rfl⟩
  rw [show parts 47 [] s.data.toList = ps from hps.out] at HZ hpl hcs
  simp only [show parts 47 [] s.data.toList = ps from hps.out] at HS
  clear hR
  have hr0 : (w.alloc (.cells #[.int .i64 0, .int .i64 0] 36)).cell? ⟨w.heap.size, 0, none⟩ = some (.int .i64 0) := (box_at w _ _ _).1
  have hr1 : (w.alloc (.cells #[.int .i64 0, .int .i64 0] 36)).cell? ⟨w.heap.size, 1, none⟩ = some (.int .i64 0) := (box_at w _ _ _).2
  have hf0 : (w.alloc (.cells #[.int .i64 0, .int .i64 0] 36)).frozen? ⟨w.heap.size, 0, none⟩ = false := by rw [World.frozen?_alloc_at _ _ _ _ rfl]
  have hf1 : (w.alloc (.cells #[.int .i64 0, .int .i64 0] 36)).frozen? ⟨w.heap.size, 1, none⟩ = false := by rw [World.frozen?_alloc_at _ _ _ _ rfl]
  have hb0 : Below w.heap.size w (w.alloc (.cells #[.int .i64 0, .int .i64 0] 36)) := below_alloc _ _
  rcases hcs with ⟨h2, hv⟩ | ⟨x0, x1, rfl, hcs⟩
  · obtain ⟨rfl, rfl, rfl⟩ : x = 0 ∧ y = 0 ∧ c = 1 := by simpa using hv
    obtain ⟨L, hL⟩ : ∃ L, Hid (ps.length = L) := ⟨ps.length, show _ = _ from rfl⟩
    have hL2 : ((L : Int) != 2) = true := by rw [bne_iff_ne, ← hL.out]; omega
    simp only [show ps.length = L from hL.out] at HS hpl
    clear h2 hv
    go_enter Tryd.func27, Tryd.ntmps27
    go_wp2_with fail
    refine (HS _).out.mono ?_
    rintro e w1 ⟨⟨v, rfl, hown⟩, hb1⟩
    obtain ⟨g, cap, rfl, hc0, hc1, -⟩ := own_cells hown (by omega)
    obtain ⟨r0, r1, f0, f1⟩ := box_cells hb1 hr0 hr1 hf0 hf1
    have HB := hb0.trans (hb1.mono (by simp))
    clear hb1 hb0 hown hr0 hr1 hf0 hf1
    go_wp2_with fail
    exact bodyPost_ret (v := .tuple #[.agg #[.int .i64 0, .int .i64 0], .int .i64 1]) (by simp [results, Tryd.results27, go_sem, r0, r1]) rfl ⟨rfl, (HB.setCell (Nat.le_refl _) _).setCell (Nat.le_refl _) _⟩
  · have z0 := HZ.out x0 (by simp)
    have z1 := HZ.out x1 (by simp)
    clear HZ hpl
    simp only [List.length_cons, List.length_nil, List.map_cons, List.map_nil] at HS
    obtain ⟨v1, hv1⟩ : ∃ v, Hid (numR x1 = v) := ⟨_, show _ = _ from rfl⟩
    have hvb : -1 ≤ v1 ∧ v1 ≤ 999999999 := by rw [← hv1.out]; exact numR_bounds _
    obtain ⟨v10, v11⟩ := hvb
    rw [show numR x1 = v1 from hv1.out] at hcs
    rcases hcs with ⟨ha, hv⟩ | ⟨a, ha, ⟨hn, hv⟩ | ⟨hn, ⟨hc, hv⟩ | ⟨hc, hv⟩⟩⟩
    · obtain ⟨rfl, rfl, rfl⟩ : x = 0 ∧ y = 0 ∧ c = 1 := by simpa using hv
      have HA : Hid (rd4 (parts 46 [] x0) = none) := ha
      clear ha hv
      go_enter Tryd.func27, Tryd.ntmps27
      go_wp2_with fail
      refine (HS _).out.mono ?_
      rintro e w1 ⟨⟨v, rfl, hown⟩, hb1⟩
      obtain ⟨g, cap, rfl, hc0, hc1, hcells⟩ := own_cells hown (by omega)
      have k0 := hcells 0 _ rfl
      have k1 := hcells 1 _ rfl
      obtain ⟨r0, r1, f0, f1⟩ := box_cells hb1 hr0 hr1 hf0 hf1
      have HB := hb0.trans (hb1.mono (by simp))
      have hcap : cap ≤ 9223372036854775807 := by unfold maxLen at hc1; omega
      clear hb1 hb0 hown hr0 hr1 hf0 hf1 hcells hc1
      go_wp2_with fail
      refine (rReadAddr_none x0 _ z0 HA.out).mono ?_
      rintro e w2 ⟨rfl, hb2⟩
      have k1 := cell_kept hb2 k1
      obtain ⟨r0, r1, f0, f1⟩ := box_cells hb2 r0 r1 f0 f1
      have HB := HB.trans (hb2.mono HB.size)
      clear hb2
      go_wp2_with (go_at_call 56; refine (rNumberOf_at x1 v1 _ z1 hv1).mono ?_; rintro e w3 ⟨rfl, hw3⟩; subst hw3)
      exact bodyPost_ret (v := .tuple #[.agg #[.int .i64 0, .int .i64 0], .int .i64 1]) (by simp [results, Tryd.results27, go_sem, r0, r1]) rfl ⟨rfl, (HB.setCell (Nat.le_refl _) _).setCell (Nat.le_refl _) _⟩
    · obtain ⟨rfl, rfl, rfl⟩ : x = 0 ∧ y = 0 ∧ c = 1 := by simpa using hv
      have hd : decide (v1 < 0) = true := decide_eq_true hn
      have HA : Hid (rd4 (parts 46 [] x0) = some a) := ha
      clear ha hv
      go_enter Tryd.func27, Tryd.ntmps27
      go_wp2_with fail
      refine (HS _).out.mono ?_
      rintro e w1 ⟨⟨v, rfl, hown⟩, hb1⟩
      obtain ⟨g, cap, rfl, hc0, hc1, hcells⟩ := own_cells hown (by omega)
      have k0 := hcells 0 _ rfl
      have k1 := hcells 1 _ rfl
      obtain ⟨r0, r1, f0, f1⟩ := box_cells hb1 hr0 hr1 hf0 hf1
      have HB := hb0.trans (hb1.mono (by simp))
      have hcap : cap ≤ 9223372036854775807 := by unfold maxLen at hc1; omega
      clear hb1 hb0 hown hr0 hr1 hf0 hf1 hcells hc1
      go_wp2_with fail
      refine (rReadAddr_some x0 a _ z0 HA.out).mono ?_
      rintro e w2 ⟨rfl, hb2⟩
      have k1 := cell_kept hb2 k1
      obtain ⟨r0, r1, f0, f1⟩ := box_cells hb2 r0 r1 f0 f1
      have HB := HB.trans (hb2.mono HB.size)
      clear hb2
      go_wp2_with (go_at_call 56; refine (rNumberOf_at x1 v1 _ z1 hv1).mono ?_; rintro e w3 ⟨rfl, hw3⟩; subst hw3)
      exact bodyPost_ret (v := .tuple #[.agg #[.int .i64 0, .int .i64 0], .int .i64 1]) (by simp [results, Tryd.results27, go_sem, r0, r1]) rfl ⟨rfl, (HB.setCell (Nat.le_refl _) _).setCell (Nat.le_refl _) _⟩
    · obtain ⟨rfl, rfl, rfl⟩ : a = x ∧ v1 = y ∧ c = 0 := by simpa [eq_comm] using hv
      have hd : decide (v1 < 0) = false := decide_eq_false (by omega)
      have HCK : Hid ((chkC a v1 : Int) = 0) := by show (chkC a v1 : Int) = 0; rw [hc]; rfl
      have HA : Hid (rd4 (parts 46 [] x0) = some a) := ha
      clear ha hv
      go_enter Tryd.func27, Tryd.ntmps27
      go_wp2_with fail
      refine (HS _).out.mono ?_
      rintro e w1 ⟨⟨v, rfl, hown⟩, hb1⟩
      obtain ⟨g, cap, rfl, hc0, hc1, hcells⟩ := own_cells hown (by omega)
      have k0 := hcells 0 _ rfl
      have k1 := hcells 1 _ rfl
      obtain ⟨r0, r1, f0, f1⟩ := box_cells hb1 hr0 hr1 hf0 hf1
      have HB := hb0.trans (hb1.mono (by simp))
      have hcap : cap ≤ 9223372036854775807 := by unfold maxLen at hc1; omega
      clear hb1 hb0 hown hr0 hr1 hf0 hf1 hcells hc1
      go_wp2_with fail
      refine (rReadAddr_some x0 a _ z0 HA.out).mono ?_
      rintro e w2 ⟨rfl, hb2⟩
      have k1 := cell_kept hb2 k1
      obtain ⟨r0, r1, f0, f1⟩ := box_cells hb2 r0 r1 f0 f1
      have HB := HB.trans (hb2.mono HB.size)
      clear hb2
      go_wp2_with (go_at_call 56; refine (rNumberOf_at x1 v1 _ z1 hv1).mono ?_; rintro e w3 ⟨rfl, hw3⟩; subst hw3)
      refine (rPrefixError_at a v1 _ HCK _).mono ?_
      rintro e w4 ⟨rfl, hb4⟩
      obtain ⟨p0, p1⟩ := box_at w3 (.int .i64 a) (.int .i64 v1) 36
      have p0 := cell_kept hb4 p0
      have p1 := cell_kept hb4 p1
      have hbx := (below_alloc w3 (.cells #[.int .i64 a, .int .i64 v1] 36)).trans (hb4.mono (by simp))
      obtain ⟨r0, r1, f0, f1⟩ := box_cells hbx r0 r1 f0 f1
      have HB := HB.trans (hbx.mono HB.size)
      clear hb4 hbx
      go_wp2_with fail
      exact bodyPost_ret (v := .tuple #[.agg #[.int .i64 a, .int .i64 v1], .int .i64 0]) (by simp [results, Tryd.results27, go_sem, r0, r1]) rfl ⟨rfl, (HB.setCell (Nat.le_refl _) _).setCell (Nat.le_refl _) _⟩
    · obtain ⟨rfl, rfl, rfl⟩ : x = 0 ∧ y = 0 ∧ c = chkC a v1 := by simpa using hv
      have hd : decide (v1 < 0) = false := decide_eq_false (by omega)
      obtain ⟨q, HCK⟩ : ∃ q : Int, Hid ((chkC a v1 : Int) = q) := ⟨_, show _ = _ from rfl⟩
      have hq : 0 < q := by rw [← HCK.out]; omega
      rw [show (chkC a v1 : Int) = q from HCK.out]
      have HA : Hid (rd4 (parts 46 [] x0) = some a) := ha
      clear ha hv
      go_enter Tryd.func27, Tryd.ntmps27
      go_wp2_with fail
      refine (HS _).out.mono ?_
      rintro e w1 ⟨⟨v, rfl, hown⟩, hb1⟩
      obtain ⟨g, cap, rfl, hc0, hc1, hcells⟩ := own_cells hown (by omega)
      have k0 := hcells 0 _ rfl
      have k1 := hcells 1 _ rfl
      obtain ⟨r0, r1, f0, f1⟩ := box_cells hb1 hr0 hr1 hf0 hf1
      have HB := hb0.trans (hb1.mono (by simp))
      have hcap : cap ≤ 9223372036854775807 := by unfold maxLen at hc1; omega
      clear hb1 hb0 hown hr0 hr1 hf0 hf1 hcells hc1
      go_wp2_with fail
      refine (rReadAddr_some x0 a _ z0 HA.out).mono ?_
      rintro e w2 ⟨rfl, hb2⟩
      have k1 := cell_kept hb2 k1
      obtain ⟨r0, r1, f0, f1⟩ := box_cells hb2 r0 r1 f0 f1
      have HB := HB.trans (hb2.mono HB.size)
      clear hb2
      go_wp2_with (go_at_call 56; refine (rNumberOf_at x1 v1 _ z1 hv1).mono ?_; rintro e w3 ⟨rfl, hw3⟩; subst hw3)
      refine (rPrefixError_at a v1 _ HCK _).mono ?_
      rintro e w4 ⟨rfl, hb4⟩
      obtain ⟨p0, p1⟩ := box_at w3 (.int .i64 a) (.int .i64 v1) 36
      have p0 := cell_kept hb4 p0
      have p1 := cell_kept hb4 p1
      have hbx := (below_alloc w3 (.cells #[.int .i64 a, .int .i64 v1] 36)).trans (hb4.mono (by simp))
      obtain ⟨r0, r1, f0, f1⟩ := box_cells hbx r0 r1 f0 f1
      have HB := HB.trans (hbx.mono HB.size)
      clear hb4 hbx
      go_wp2_with fail
      exact bodyPost_ret (v := .tuple #[.agg #[.int .i64 0, .int .i64 0], .int .i64 q]) (by simp [results, Tryd.results27, go_sem, r0, r1]) rfl ⟨rfl, (HB.setCell (Nat.le_refl _) _).setCell (Nat.le_refl _) _⟩
end Go.Proofs.YthehpnhjfnenoaaDoor
