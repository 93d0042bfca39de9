/-
  The document's answer, chapter 2 (herepathref1): Fine, PrefixesFault, wanted, inside, InSet: what each returns.
-/
import Derived.Test.YthehpnhjfnenoaaGreatDoorRef3
import Derived.Test.YthehpnhjfnenoaaGreatDoorSet12
import Derived.Deep.RegionWith
namespace Go.Proofs.YthehpnhjfnenoaaGreatDoor
open Go.RowKit

theorem below_box (w : World) (x y u v : Value) (t : TypeId) : Below w.heap.size w (((w.alloc (.cells #[x, y] t)).setCell ⟨w.heap.size, 0, none⟩ u).setCell ⟨w.heap.size, 1, none⟩ v) :=
  ((below_alloc w _).setCell (Nat.le_refl _) _).setCell (Nat.le_refl _) _
theorem rFine_any (w : World) : Calls Tryz.prog 21 #[] w fun e w' => e = .returned (.agg #[.int .i64 0, .int .i64 (-1)]) ∧ Below w.heap.size w w' := by
  go_enter Tryz.func21, Tryz.ntmps21
  go_wp2
  exact bodyPost_ret (v := .agg #[.int .i64 0, .int .i64 (-1)]) (by simp [results, Tryz.results21, go_sem]) rfl ⟨rfl, by first | exact below_box _ _ _ _ _ _ | exact below_alloc _ _⟩
theorem rWanted_any (a b : Bool) (k : Int) (w : World) : Calls Tryz.prog 40 #[.bool a, .bool b, .int .i64 k] w fun e w' => e = .returned (.bool (wantB a b k)) ∧ w' = w := by
  by_cases h1 : k = 1
  · subst h1
    cases a <;> cases b
    all_goals
      go_enter Tryz.func40, Tryz.ntmps40
      go_wp2
      go_ret
      exact ⟨rfl, rfl⟩
  · by_cases h2 : k = 2
    · subst h2
      cases a <;> cases b
      all_goals
        go_enter Tryz.func40, Tryz.ntmps40
        go_wp2
        go_ret
        exact ⟨rfl, rfl⟩
    · have e1 : (k == 1) = false := by rw [beq_eq_false_iff_ne]; exact h1
      have e2 : (k == 2) = false := by rw [beq_eq_false_iff_ne]; exact h2
      have hw : wantB a b k = (a && !b) := by unfold wantB; rw [if_neg h1, if_neg h2]
      rw [hw]
      clear hw h1 h2
      cases a <;> cases b
      all_goals
        go_enter Tryz.func40, Tryz.ntmps40
        go_wp2
        go_ret
        exact ⟨rfl, rfl⟩

/-- the number and the place of the first fault. -/
def faultC (l : List (Int × Int)) (i : Nat) : Int × Int := if h : i < l.length then ((chkC l[i].1 l[i].2 : Int), (i : Int)) else (0, -1)
set_option linter.unusedVariables false in
set_option maxRecDepth 100000 in
set_option maxHeartbeats 4000000 in
theorem rPrefixesFault_any (l : List (Int × Int)) (i : Nat) (hR : RightTo l i) (p : Option Addr) (c : Nat) (f0 f1 : Int) (hf : Hid (faultC l i = (f0, f1))) (w : World) (hl : Pairs w p l) (hb : l.length ≤ 1099511627776) :
    Calls Tryz.prog 19 #[.slice p l.length c] w fun e w' => e = .returned (.agg #[.int .i64 f0, .int .i64 f1]) ∧ Below w.heap.size w w' := by
  obtain ⟨HL⟩ : Nonempty (Hid (Pairs w p l ∧ RightTo l i)) := ⟨⟨hl, hR⟩⟩
  have hil := hR.le
  obtain ⟨B, hB⟩ : ∃ B, Hid (w.heap.size = B) := ⟨_, show _ = _ from rfl⟩
  have hb0 : Below B w (w.alloc (.cells #[.int .i64 0, .int .i64 0] 30)) := (Below.refl B w).alloc (by rw [← hB.out]; exact Nat.le_refl _) _
  have hX0 : Hid ((w.alloc (.cells #[.int .i64 0, .int .i64 0] 30)).heap[B]? = some (.cells #[.int .i64 0, .int .i64 0] 30 (0, 0))) := by
    rw [← show w.heap.size = B from hB.out]; exact Go.heap_alloc_new w _
  rw [show w.heap.size = B from hB.out]
  clear hl hR
  go_enter Tryz.func19, Tryz.ntmps19
  go_wp2
  rw [show w.heap.size = B from hB.out]
  go_loopw [3] (fun z wr => ∃ k : Nat, z = .int .i64 k ∧ k ≤ i ∧ Hid (wr.heap[B]? = some (.cells #[.int .i64 0, .int .i64 0] 30 (0, 0))) ∧ Below B w wr) (fun z _ => l.length - (intOf z).toNat)
  case atStart => exact ⟨0, rfl, Nat.zero_le _, hX0.out, hb0⟩
  case round =>
    clear hX0 hb0
    obtain ⟨k, rfl, hk, HX, hbo⟩ := hrel
    obtain ⟨r0, r1, z0, z1, hBl⟩ := row_cells HX.out
    have hbw : Below w.heap.size w wr := by rw [show w.heap.size = B from hB.out]; exact hbo
    by_cases hlt : k < l.length
    · obtain ⟨b0, o0, rfl, c0, c1⟩ := HL.out.1 k hlt
      have c0' := cell_kept hbw c0
      have c1' := cell_kept hbw c1
      obtain ⟨a, ha⟩ : ∃ a, Hid (l[k].1 = a) := ⟨_, show _ = _ from rfl⟩
      obtain ⟨n, hn⟩ : ∃ n, Hid (l[k].2 = n) := ⟨_, show _ = _ from rfl⟩
      rw [show l[k].1 = a from ha.out] at c0'
      rw [show l[k].2 = n from hn.out] at c1'
      clear c0 c1 hbw
      by_cases hki : k < i
      · have hrt : rt a n = true := by have := HL.out.2.yes k hlt hki; rw [show l[k].1 = a from ha.out, show l[k].2 = n from hn.out] at this; exact this
        obtain ⟨HN⟩ : Nonempty (Hid (Calls _ _ _ _ _)) := ⟨rPrefixError_at a n 0 (chkC_rt' hrt) wr⟩
        go_wp2_with fail
        refine HN.out.mono ?_
        rintro e w1 ⟨rfl, hb1⟩
        have hbo2 := hbo.trans (hb1.mono (Nat.le_of_lt hBl))
        have HX2 : Hid (w1.heap[B]? = some (.cells #[.int .i64 0, .int .i64 0] 30 (0, 0))) := by rw [Hid, hb1.block B hBl]; exact HX.out
        clear HN hb1 hbo HX r0 r1 z0 z1 c0' c1'
        go_wp2
        go_roundw
        case rel => exact ⟨k + 1, by go_num, by omega, HX2.out, hbo2⟩
        case measure => simp [intOf]; omega
      · obtain rfl : k = i := by omega
        have hrt : rt a n = false := by have := HL.out.2.no hlt; rw [show l[k].1 = a from ha.out, show l[k].2 = n from hn.out] at this; exact this
        obtain ⟨q, hq, hq0⟩ := chkC_bad hrt
        have hff : q = f0 ∧ (k : Int) = f1 := by
          have h := hf.out
          unfold faultC at h
          rw [dif_pos hlt, show l[k].1 = a from ha.out, show l[k].2 = n from hn.out, hq.out] at h
          simpa using h
        obtain ⟨rfl, rfl⟩ := hff
        obtain ⟨HN⟩ : Nonempty (Hid (Calls _ _ _ _ _)) := ⟨rPrefixError_at a n q hq wr⟩
        go_wp2_with fail
        refine HN.out.mono ?_
        rintro e w1 ⟨rfl, hb1⟩
        have hbo2 := hbo.trans (hb1.mono (Nat.le_of_lt hBl))
        have hX2 : w1.heap[B]? = some (.cells #[.int .i64 0, .int .i64 0] 30 (0, 0)) := by rw [hb1.block B hBl]; exact HX.out
        obtain ⟨s0, s1, y0, y1, hBl1⟩ := row_cells hX2
        clear HN hb1 hbo HX r0 r1 z0 z1 c0' c1' hX2
        go_wp2
        refine bodyPost_ret (v := .agg #[.int .i64 q, .int .i64 (k : Int)]) (by simp [results, Tryz.results19, go_sem, s0, s1]) rfl ⟨rfl, ?_⟩
        exact (hbo2.setCell (Nat.le_refl _) _).setCell (Nat.le_refl _) _
    · have hff : (0 : Int) = f0 ∧ (-1 : Int) = f1 := by
        have h := hf.out
        unfold faultC at h
        rw [dif_neg (by omega)] at h
        simpa using h
      obtain ⟨rfl, rfl⟩ := hff
      obtain ⟨HN⟩ : Nonempty (Hid (Calls _ _ _ _ _)) := ⟨rFine_any wr⟩
      clear hbw
      go_wp2_with fail
      refine HN.out.mono ?_
      rintro e w1 ⟨rfl, hb1⟩
      have hbo2 := hbo.trans (hb1.mono (Nat.le_of_lt hBl))
      have hX2 : w1.heap[B]? = some (.cells #[.int .i64 0, .int .i64 0] 30 (0, 0)) := by rw [hb1.block B hBl]; exact HX.out
      obtain ⟨s0, s1, y0, y1, hBl1⟩ := row_cells hX2
      clear HN hb1 hbo HX r0 r1 z0 z1 hX2
      go_wp2
      refine bodyPost_ret (v := .agg #[.int .i64 0, .int .i64 (-1)]) (by simp [results, Tryz.results19, go_sem, s0, s1]) rfl ⟨rfl, ?_⟩
      exact (hbo2.setCell (Nat.le_refl _) _).setCell (Nat.le_refl _) _
end Go.Proofs.YthehpnhjfnenoaaGreatDoor
