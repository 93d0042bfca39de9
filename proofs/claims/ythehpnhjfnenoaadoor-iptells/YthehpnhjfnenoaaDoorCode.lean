/-
  plain.Code at an error of errors.New's make, at an *api.Fault that holds one, and at nil, in whatever memory in which package api's nine errors lie as they were laid.
-/
import Derived.Test.YthehpnhjfnenoaaDoorIs
import Derived.Test.YthehpnhjfnenoaaDoorAs
namespace Go.Proofs.YthehpnhjfnenoaaDoor
open Go.RowKit Go.Extern.Stop Go.Stop Go.Extern

/-- The nine errors of package api lie apart, the i-th at 'a i'; errors' own handle lies too. -/
structure ErrsLaid (w : World) (a : Nat → Addr) : Prop where
  c0 : w.cell? ⟨0, 0, none⟩ = some (.iface 72 (.pointer (some (a 0))))
  c1 : w.cell? ⟨1, 0, none⟩ = some (.iface 72 (.pointer (some (a 1))))
  c2 : w.cell? ⟨2, 0, none⟩ = some (.iface 72 (.pointer (some (a 2))))
  c3 : w.cell? ⟨3, 0, none⟩ = some (.iface 72 (.pointer (some (a 3))))
  c4 : w.cell? ⟨4, 0, none⟩ = some (.iface 72 (.pointer (some (a 4))))
  c5 : w.cell? ⟨5, 0, none⟩ = some (.iface 72 (.pointer (some (a 5))))
  c6 : w.cell? ⟨6, 0, none⟩ = some (.iface 72 (.pointer (some (a 6))))
  c7 : w.cell? ⟨7, 0, none⟩ = some (.iface 72 (.pointer (some (a 7))))
  c8 : w.cell? ⟨8, 0, none⟩ = some (.iface 72 (.pointer (some (a 8))))
  et : w.cell? ⟨9, 0, none⟩ = some (.iface 117 (.agg #[.pointer (some ⟨16, 25, none⟩)]))
  row : ∀ i, i < 9 → ∃ c t, w.heap[(a i).block]? = some (.cells c t (0, 0))
  apart : ∀ i j, i < 9 → j < 9 → i ≠ j → a i ≠ a j

theorem row_lt {w : World} {b : Nat} {o : Obj} (h : w.heap[b]? = some o) : b < w.heap.size := by
  rcases Nat.lt_or_ge b w.heap.size with h' | h'
  · exact h'
  · simp [Array.getElem?_eq_none h'] at h

theorem cell_below {B : Nat} {w w' : World} (hb : Below B w w') {p : Addr} {v : Value} (h : w.cell? p = some v) (hp : p.block < B) : w'.cell? p = some v := by
  rw [hb.cell hp]; exact h

theorem ErrsLaid.below {w w' : World} {a : Nat → Addr} (h : ErrsLaid w a) (hb : Below w.heap.size w w') : ErrsLaid w' a where
  c0 := cell_below hb h.c0 (cell_lt h.c0)
  c1 := cell_below hb h.c1 (cell_lt h.c1)
  c2 := cell_below hb h.c2 (cell_lt h.c2)
  c3 := cell_below hb h.c3 (cell_lt h.c3)
  c4 := cell_below hb h.c4 (cell_lt h.c4)
  c5 := cell_below hb h.c5 (cell_lt h.c5)
  c6 := cell_below hb h.c6 (cell_lt h.c6)
  c7 := cell_below hb h.c7 (cell_lt h.c7)
  c8 := cell_below hb h.c8 (cell_lt h.c8)
  et := cell_below hb h.et (cell_lt h.et)
  row := fun i hi => by
    obtain ⟨c, t, hr⟩ := h.row i hi
    exact ⟨c, t, by rw [hb.block _ (row_lt hr)]; exact hr⟩
  apart := h.apart

/-- errors.As, a miss, in fewer words. -/
theorem as_miss' (e : Addr) (w : World) (hg : w.cell? ⟨9, 0, none⟩ = some (.iface 117 (.agg #[.pointer (some ⟨16, 25, none⟩)]))) :
    Calls Tryd.prog 44 #[.iface 72 (.pointer (some e)), .iface 70 (.pointer (some ⟨w.heap.size, 0, none⟩))] (w.alloc (.cells #[.pointer none] 29)) fun ev w' => ev = .returned (.bool false) ∧ Below w.heap.size w w' := by
  have hg' : (w.alloc (.cells #[.pointer none] 29)).cell? ⟨9, 0, none⟩ = some (.iface 117 (.agg #[.pointer (some ⟨16, 25, none⟩)])) := by
    rw [World.cell?_alloc_lt _ _ ⟨9, 0, none⟩ (cell_lt hg)]; exact hg
  refine (as_miss e ⟨w.heap.size, 0, none⟩ _ hg').mono ?_
  rintro ev w' ⟨rfl, rfl⟩
  refine ⟨rfl, ?_⟩
  exact ((((Below.refl _ _).alloc (Nat.le_refl _) _).alloc (by simp) _).alloc (by simp; omega) _).alloc (by simp; omega) _

/-- errors.As, a hit, in fewer words. -/
theorem as_hit' (e : Addr) (w : World) (hg : w.cell? ⟨9, 0, none⟩ = some (.iface 117 (.agg #[.pointer (some ⟨16, 25, none⟩)]))) :
    Calls Tryd.prog 44 #[.iface 29 (.pointer (some e)), .iface 70 (.pointer (some ⟨w.heap.size, 0, none⟩))] (w.alloc (.cells #[.pointer none] 29)) fun ev w' => ev = .returned (.bool true) ∧ Below w.heap.size w w' ∧ w'.cell? ⟨w.heap.size, 0, none⟩ = some (.pointer (some e)) := by
  have hg' : (w.alloc (.cells #[.pointer none] 29)).cell? ⟨9, 0, none⟩ = some (.iface 117 (.agg #[.pointer (some ⟨16, 25, none⟩)])) := by
    rw [World.cell?_alloc_lt _ _ ⟨9, 0, none⟩ (cell_lt hg)]; exact hg
  refine (as_hit e ⟨w.heap.size, 0, none⟩ (.pointer none) _ hg' (by simp) (by simp)).mono ?_
  rintro ev w' ⟨rfl, rfl⟩
  refine ⟨rfl, ?_, ?_⟩
  · exact (((((Below.refl _ _).alloc (Nat.le_refl _) _).alloc (by simp) _).alloc (by simp; omega) _).alloc (by simp; omega) _).alloc (by simp; omega) _ |>.setCell (Nat.le_refl _) _
  · apply World.cell?_setCell_same (u := .pointer none)
    rw [World.cell?_alloc_past _ _ _ (by simp; omega), World.cell?_alloc_past _ _ _ (by simp; omega), World.cell?_alloc_past _ _ _ (by simp; omega), World.cell?_alloc_past _ _ _ (by simp), World.cell?_alloc_at _ _ _ _ rfl]; rfl

theorem code_nil (w : World) : Calls Tryd.prog 9 #[.nilIface] w fun e w' => e = .returned (.tuple #[.int .i64 0, .int .i64 (-1)]) ∧ w' = w := by
  go_enter Tryd.func9, Tryd.ntmps9
  go_wp2
  go_ret2
  exact ⟨rfl, rfl⟩

set_option maxRecDepth 100000 in
set_option maxHeartbeats 4000000 in
/-- Code of an error of errors.New's make that is none of the first k of the nine, and is the k-th where k is below nine. -/
theorem code_plain (e : Addr) (k : Nat) (a : Nat → Addr) (w : World) (h : ErrsLaid w a) (hk : k ≤ 9) (hrow : ∃ c t, w.heap[e.block]? = some (.cells c t (0, 0)))
    (hne : ∀ i, i < k → e ≠ a i) (hit : k < 9 → e = a k) :
    Calls Tryd.prog 9 #[.iface 72 (.pointer (some e))] w fun ev w' => ev = .returned (.tuple #[.int .i64 (if k < 9 then (k : Int) + 1 else -1), .int .i64 (-1)]) ∧ Below w.heap.size w w' := by
  have HR : Hid (∃ c t, w.heap[e.block]? = some (.cells c t (0, 0))) := hrow
  have HN : Hid (∀ i, i < k → e ≠ a i) := hne
  have HI : Hid (k < 9 → e = a k) := hit
  have HL : Hid (ErrsLaid w a) := h
  clear hrow hne hit h
  go_enter Tryd.func9, Tryd.ntmps9
  go_wp2_with (go_at_call 44; refine (as_miss' e w HL.out.et).mono ?_; rintro ev w1 ⟨rfl, hb1⟩; obtain ⟨d0, d1, d2, d3, d4, d5, d6, d7, d8, -, -, -⟩ := HL.out.below hb1)
  go_loopw [3, 27] (fun s t wx => ∃ i : Nat, i ≤ k ∧ s = .int .i64 (-1) ∧ t = .int .i64 i ∧ Below w.heap.size w wx ∧ ∀ j, j < 9 → wx.cell? ⟨w1.heap.size, j, none⟩ = some (.iface 72 (.pointer (some (a j))))) (fun _ t _ => 9 - (intOf t).toNat)
  case atStart =>
    refine ⟨0, Nat.zero_le _, rfl, rfl, hb1.alloc hb1.size _, ?_⟩
    intro j hj
    rw [World.cell?_alloc_at _ _ _ _ rfl]
    have : j = 0 ∨ j = 1 ∨ j = 2 ∨ j = 3 ∨ j = 4 ∨ j = 5 ∨ j = 6 ∨ j = 7 ∨ j = 8 := by omega
    rcases this with rfl | rfl | rfl | rfl | rfl | rfl | rfl | rfl | rfl <;> rfl
  case round =>
    obtain ⟨i, hi, rfl, rfl, hbx, hcx⟩ := hrel
    have HB : Hid (Below w.heap.size w wr) := hbx
    have HX : Hid (∀ j, j < 9 → wr.cell? ⟨w1.heap.size, j, none⟩ = some (.iface 72 (.pointer (some (a j))))) := hcx
    clear hbx hcx d0 d1 d2 d3 d4 d5 d6 d7 d8
    by_cases hik : i < k
    · have hi9 : i < 9 := by omega
      have hc := HX.out i hi9
      obtain ⟨ce, te, re⟩ := HR.out
      obtain ⟨ci, ti, ri⟩ := HL.out.row i hi9
      have HI2 : Hid (Calls Tryd.prog 45 #[.iface 72 (.pointer (some e)), .iface 72 (.pointer (some (a i)))] wr fun ev w' => ev = .returned (.bool false) ∧ w' = wr) :=
        is_other wr (HN.out i hik) (by rw [HB.out.block _ (row_lt re)]; exact re) (by rw [HB.out.block _ (row_lt ri)]; exact ri)
      clear re ri
      go_wp2_with (go_at_call 45; refine HI2.out.mono ?_; rintro ev w2 ⟨rfl, rfl⟩)
      go_roundw
      case rel => exact ⟨i + 1, by omega, rfl, by go_num, HB.out, HX.out⟩
      case measure => simp [intOf]; omega
    · obtain rfl : i = k := by omega
      by_cases hi9 : i < 9
      · have hc := HX.out i hi9
        obtain rfl := HI.out hi9
        go_wp2_with (go_at_call 45; refine (is_same (a i) wr).mono ?_; rintro ev w2 ⟨rfl, rfl⟩)
        go_ret2
        exact ⟨rfl, HB.out⟩
      · obtain rfl : i = 9 := by omega
        go_wp2
        go_ret2
        exact ⟨rfl, HB.out⟩

set_option maxRecDepth 100000 in
set_option maxHeartbeats 4000000 in
/-- Code of an *api.Fault that holds such an error. -/
theorem code_fault (b : Nat) (n : Int) (e : Addr) (k : Nat) (a : Nat → Addr) (w : World) (h : ErrsLaid w a) (hk : k ≤ 9) (hrow : ∃ c t, w.heap[e.block]? = some (.cells c t (0, 0)))
    (hf0 : w.cell? ⟨b, 0, none⟩ = some (.int .i64 n)) (hf1 : w.cell? ⟨b, 1, none⟩ = some (.iface 72 (.pointer (some e))))
    (hne : ∀ i, i < k → e ≠ a i) (hit : k < 9 → e = a k) :
    Calls Tryd.prog 9 #[.iface 29 (.pointer (some ⟨b, 0, none⟩))] w fun ev w' => ev = .returned (.tuple #[.int .i64 (if k < 9 then (k : Int) + 1 else -1), .int .i64 n]) ∧ Below w.heap.size w w' := by
  have hbl : b < w.heap.size := cell_lt hf0
  have HR : Hid (∃ c t, w.heap[e.block]? = some (.cells c t (0, 0))) := hrow
  have HN : Hid (∀ i, i < k → e ≠ a i) := hne
  have HI : Hid (k < 9 → e = a k) := hit
  have HL : Hid (ErrsLaid w a) := h
  have H0 : Hid (w.cell? ⟨b, 0, none⟩ = some (.int .i64 n)) := hf0
  have H1 : Hid (w.cell? ⟨b, 1, none⟩ = some (.iface 72 (.pointer (some e)))) := hf1
  clear hrow hne hit h hf0 hf1
  go_enter Tryd.func9, Tryd.ntmps9
  go_wp2_with (go_at_call 44; refine (as_hit' ⟨b, 0, none⟩ w HL.out.et).mono ?_; rintro ev w1 ⟨rfl, hb1, hf⟩; obtain ⟨d0, d1, d2, d3, d4, d5, d6, d7, d8, -, -, -⟩ := HL.out.below hb1; have g0 := cell_below hb1 H0.out hbl)
  go_loopw [3, 27] (fun s t wx => ∃ i : Nat, i ≤ k ∧ s = .int .i64 n ∧ t = .int .i64 i ∧ Below w.heap.size w wx ∧ ∀ j, j < 9 → wx.cell? ⟨w1.heap.size, j, none⟩ = some (.iface 72 (.pointer (some (a j))))) (fun _ t _ => 9 - (intOf t).toNat)
  case atStart =>
    refine ⟨0, Nat.zero_le _, rfl, rfl, hb1.alloc hb1.size _, ?_⟩
    intro j hj
    rw [World.cell?_alloc_at _ _ _ _ rfl]
    have : j = 0 ∨ j = 1 ∨ j = 2 ∨ j = 3 ∨ j = 4 ∨ j = 5 ∨ j = 6 ∨ j = 7 ∨ j = 8 := by omega
    rcases this with rfl | rfl | rfl | rfl | rfl | rfl | rfl | rfl | rfl <;> rfl
  case round =>
    obtain ⟨i, hi, rfl, rfl, hbx, hcx⟩ := hrel
    have HB : Hid (Below w.heap.size w wr) := hbx
    have HX : Hid (∀ j, j < 9 → wr.cell? ⟨w1.heap.size, j, none⟩ = some (.iface 72 (.pointer (some (a j))))) := hcx
    clear hbx hcx d0 d1 d2 d3 d4 d5 d6 d7 d8 g0 hf
    by_cases hik : i < k
    · have hi9 : i < 9 := by omega
      have hc := HX.out i hi9
      obtain ⟨ce, te, re⟩ := HR.out
      obtain ⟨ci, ti, ri⟩ := HL.out.row i hi9
      have HI2 : Hid (Calls Tryd.prog 45 #[.iface 29 (.pointer (some ⟨b, 0, none⟩)), .iface 72 (.pointer (some (a i)))] wr fun ev w' => ev = .returned (.bool false) ∧ w' = wr) :=
        is_fault_other ⟨b, 0, none⟩ wr (cell_below HB.out H1.out hbl) (HN.out i hik) (by rw [HB.out.block _ (row_lt re)]; exact re) (by rw [HB.out.block _ (row_lt ri)]; exact ri)
      clear re ri
      go_wp2_with (go_at_call 45; refine HI2.out.mono ?_; rintro ev w2 ⟨rfl, rfl⟩)
      go_roundw
      case rel => exact ⟨i + 1, by omega, rfl, by go_num, HB.out, HX.out⟩
      case measure => simp [intOf]; omega
    · obtain rfl : i = k := by omega
      by_cases hi9 : i < 9
      · have hc := HX.out i hi9
        obtain rfl := HI.out hi9
        have HI2 : Hid (Calls Tryd.prog 45 #[.iface 29 (.pointer (some ⟨b, 0, none⟩)), .iface 72 (.pointer (some (a i)))] wr fun ev w' => ev = .returned (.bool true) ∧ w' = wr) :=
          is_fault_same ⟨b, 0, none⟩ (a i) wr (cell_below HB.out H1.out hbl)
        go_wp2_with (go_at_call 45; refine HI2.out.mono ?_; rintro ev w2 ⟨rfl, rfl⟩)
        go_ret2
        exact ⟨rfl, HB.out⟩
      · obtain rfl : i = 9 := by omega
        go_wp2
        go_ret2
        exact ⟨rfl, HB.out⟩

set_option maxRecDepth 100000 in
set_option maxHeartbeats 1000000 in
/-- coded, at the error that is the k-th of the nine. -/
theorem coded_plain (k : Nat) (c : Int) (a : Nat → Addr) (w : World) (h : ErrsLaid w a) (hk : k < 9) :
    Calls Tryd.prog 10 #[.iface 72 (.pointer (some (a k))), .int .i64 c] w fun ev w' => ev = .returned (.bool ((k : Int) + 1 == c)) ∧ Below w.heap.size w w' := by
  have HC : Hid (Calls Tryd.prog 9 #[.iface 72 (.pointer (some (a k)))] w fun ev w' => ev = .returned (.tuple #[.int .i64 ((k : Int) + 1), .int .i64 (-1)]) ∧ Below w.heap.size w w') := by
    have := code_plain (a k) k a w h (by omega) (h.row k hk) (fun i hi => h.apart k i hk (by omega) (by omega)) (fun _ => rfl)
    rw [if_pos hk] at this
    exact this
  clear h
  by_cases hc : (k : Int) + 1 == c
  all_goals
    go_enter Tryd.func10, Tryd.ntmps10
    go_wp2_with (go_at_call 9; refine HC.out.mono ?_; rintro ev w1 ⟨rfl, hb1⟩)
    go_ret
    exact ⟨by simp [hc], hb1⟩
/-- coded, at nil. -/
theorem coded_nil (c : Int) (w : World) :
    Calls Tryd.prog 10 #[.nilIface, .int .i64 c] w fun ev w' => ev = .returned (.bool (0 == c)) ∧ w' = w := by
  by_cases hc : (0 : Int) == c
  all_goals
    go_enter Tryd.func10, Tryd.ntmps10
    go_wp2_with (go_at_call 9; refine (code_nil w).mono ?_; rintro ev w1 ⟨rfl, rfl⟩)
    go_ret
    exact ⟨by simp [hc], rfl⟩
theorem errors_new (s : ByteArray) (w : World) : Calls Tryd.prog 11 #[.string s] w fun ev w' => ev = .returned (.iface 72 (.pointer (some ⟨w.heap.size, 0, none⟩))) ∧ w' = w.alloc (.cells #[.string s] 74) := by
  go_enter Tryd.func11, Tryd.ntmps11
  go_wp2
  go_ret
  exact ⟨rfl, rfl⟩
end Go.Proofs.YthehpnhjfnenoaaDoor
