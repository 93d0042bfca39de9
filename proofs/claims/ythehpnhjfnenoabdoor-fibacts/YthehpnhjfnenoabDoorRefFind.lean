/-
  The document's NewTable and Find.
-/
import Derived.Test.YthehpnhjfnenoabDoorRefTab
namespace Go.Proofs.YthehpnhjfnenoabDoor
open Go.RowKit

theorem rNew_any (m k : Int) (hk : Hid (min (max m 0) 60 = k)) (w : World) : Calls Tryd.prog 26 #[.int .i64 m] w fun r w' => r = .returned (.pointer (some ⟨w.heap.size, 0, none⟩)) ∧ RTab w' w.heap.size [] k [w.heap.size] ∧ Below w.heap.size w w' := by
  have hrow := Go.heap_alloc_new w (rtabObj k (.slice none 0 0))
  obtain ⟨HT⟩ : Nonempty (Hid (RTab (w.alloc (rtabObj k (.slice none 0 0))) w.heap.size [] k [w.heap.size] ∧ Below w.heap.size w (w.alloc (rtabObj k (.slice none 0 0))))) := ⟨⟨⟨.slice none 0 0, hrow, World.ownsRow_nil _ _ _ _, by simp [Value.ownBlock], rfl⟩, below_alloc _ _⟩⟩
  clear hrow
  by_cases h0 : m < 0
  · obtain rfl : 0 = k := by have := hk.out; omega
    go_enter Tryd.func26, Tryd.ntmps26
    go_wp2
    go_ret
    exact ⟨rfl, HT.out.1, HT.out.2⟩
  · by_cases h1 : 60 < m
    · obtain rfl : 60 = k := by have := hk.out; omega
      have h0' : ¬ m < 0 := h0
      go_enter Tryd.func26, Tryd.ntmps26
      go_wp2
      go_ret
      exact ⟨rfl, HT.out.1, HT.out.2⟩
    · obtain rfl : m = k := by have := hk.out; omega
      go_enter Tryd.func26, Tryd.ntmps26
      go_wp2
      go_ret
      exact ⟨rfl, HT.out.1, HT.out.2⟩
set_option linter.unusedVariables false in
set_option linter.unusedSimpArgs false in
set_option maxRecDepth 100000 in
set_option maxHeartbeats 1000000 in
theorem rFind_any (rb : Nat) (L : List Ent) (mo a : Int) (G : List Nat) (w : World) (h : RTab w rb L mo G) (hl : L.length ≤ 1000000) :
    Calls Tryd.prog 33 #[.pointer (some ⟨rb, 0, none⟩), .int .i64 a] w fun r w' => ∃ k : Int, r = .returned (.int .i64 k) ∧ FoundK L a L.length k ∧ Below w.heap.size w w' := by
  obtain ⟨v, h1, h2, -, -⟩ := h
  obtain ⟨q, cap, rfl, -, -, hq⟩ := own_ents h2
  obtain ⟨-, c1, -⟩ := rtab_cells h1
  obtain ⟨HE⟩ : Nonempty (Hid (Ents w q L ∧ w.cell? ⟨rb, 1, none⟩ = some (.slice q L.length cap))) := ⟨⟨hq, c1⟩⟩
  obtain ⟨B, hB⟩ : ∃ b, Hid (w.heap.size = b) := ⟨_, show _ = _ from rfl⟩
  rw [show w.heap.size = B from hB.out]
  clear h1 h2 hq c1
  go_enter Tryd.func33, Tryd.ntmps33
  go_wp2_with fail
  go_loopw [5, 6, 7] (fun k i _ wr => ∃ (j : Nat) (kk : Int), i = .int .i64 j ∧ k = .int .i64 kk ∧ Hid (FoundK L a j kk ∧ Below B w wr) ∧ j ≤ L.length) (fun _ i _ _ => L.length - (intOf i).toNat)
  case atStart => exact ⟨0, -1, rfl, rfl, ⟨.inl ⟨rfl, fun i h => by omega⟩, Below.refl _ _⟩, Nat.zero_le _⟩
  case round =>
    obtain ⟨j, kk, rfl, rfl, HK, hjl⟩ := hrel
    have hbw := HK.out.2
    rw [← show w.heap.size = B from hB.out] at hbw
    have c1 := cell_kept hbw HE.out.2
    by_cases hlt : j < L.length
    · have q3 : (j : Int) < L.length := by omega
      obtain ⟨b, o, rfl, x0c, x1c, -⟩ := HE.out.1 j hlt
      have d0 := cell_kept hbw x0c
      have d1 := cell_kept hbw x1c
      obtain ⟨⟨⟨x0, x1⟩, x2⟩, hx⟩ : ∃ x, Hid (L[j] = x) := ⟨_, show _ = _ from rfl⟩
      rw [hx.out] at d0 d1
      simp only at d0 d1
      obtain ⟨hb, hhb⟩ : ∃ x, Hid (hasB x0 x1 a = x) := ⟨_, show _ = _ from rfl⟩
      obtain ⟨HC⟩ : Nonempty (Hid (Calls _ _ _ _ _)) := ⟨rHasAddr_any x0 x1 a wr⟩
      rw [show hasB x0 x1 a = hb from hhb.out] at HC
      clear x0c x1c hbw
      go_wp2_with fail
      refine HC.out.mono ?_
      clear HC
      rintro e w1 ⟨rfl, hb1⟩
      have hbB := HK.out.2.trans (hb1.mono (by have := HK.out.2.size; rw [hB.out] at this; exact this))
      have hbw := hbB
      rw [← show w.heap.size = B from hB.out] at hbw
      replace c1 := cell_kept hb1 c1
      replace d0 := cell_kept hb1 d0
      replace d1 := cell_kept hb1 d1
      obtain ⟨HB1⟩ : Nonempty (Hid (Below B w w1)) := ⟨hbB⟩
      clear hb1 hbB
      cases hb with
      | false =>
        clear hbw
        obtain ⟨HN⟩ : Nonempty (Hid (FoundK L a (j + 1) kk)) := ⟨found_no HK.out.1 hlt (by rw [hx.out]; exact hhb.out)⟩
        go_wp2_with fail
        go_roundw
        case rel => first | exact ⟨j + 1, kk, by go_num, rfl, ⟨HN.out, HB1.out⟩, by omega⟩ | ((repeat apply Exists.intro); exact ⟨⟨j + 1, kk, by go_num, rfl, ⟨HN.out, HB1.out⟩, by omega⟩, rfl⟩)
        case measure => simp [intOf]; omega
      | true =>
        rcases HK.out.1.range with rfl | ⟨i, hi, hij, rfl⟩
        · clear hbw
          obtain ⟨HN⟩ : Nonempty (Hid (FoundK L a (j + 1) j)) := ⟨found_new HK.out.1 hlt (by rw [hx.out]; exact hhb.out) (.inl rfl)⟩
          go_wp2_with fail
          go_roundw
          case rel => first | exact ⟨j + 1, j, by go_num, rfl, ⟨HN.out, HB1.out⟩, by omega⟩ | ((repeat apply Exists.intro); exact ⟨⟨j + 1, j, by go_num, rfl, ⟨HN.out, HB1.out⟩, by omega⟩, rfl⟩)
          case measure => simp [intOf]; omega
        · obtain ⟨b', o', he, -, y1c, -⟩ := HE.out.1 i hi
          simp only [Option.some.injEq, Addr.mk.injEq, and_true] at he
          obtain ⟨rfl, rfl⟩ := he
          have e1 := cell_kept hbw y1c
          obtain ⟨⟨⟨y0, y1⟩, y2⟩, hy⟩ : ∃ x, Hid (L[i] = x) := ⟨_, show _ = _ from rfl⟩
          rw [hy.out] at e1
          simp only at e1
          have q4 : (i : Int) < L.length := by omega
          have q5 : ¬ ((i : Int) < 0) := by omega
          clear y1c hbw
          by_cases hgt : y1 < x1
          · obtain ⟨HN⟩ : Nonempty (Hid (FoundK L a (j + 1) j)) := ⟨found_new HK.out.1 hlt (by rw [hx.out]; exact hhb.out) (.inr ⟨i, hi, rfl, by rw [hx.out, hy.out]; exact hgt⟩)⟩
            have hgt' : decide (y1 < x1) = true := decide_eq_true hgt
            go_wp2_with fail
            go_quiet (fail)
            go_wp2_with fail
            go_roundw
            case rel => first | exact ⟨j + 1, j, by go_num, rfl, ⟨HN.out, below_drewN HB1.out _⟩, by omega⟩ | ((repeat apply Exists.intro); exact ⟨⟨j + 1, j, by go_num, rfl, ⟨HN.out, below_drewN HB1.out _⟩, by omega⟩, rfl⟩)
            case measure => simp [intOf]; omega
          · obtain ⟨HN⟩ : Nonempty (Hid (FoundK L a (j + 1) i)) := ⟨found_old HK.out.1 hi hlt (by rw [hx.out, hy.out]; simp only; omega)⟩
            have hgt' : decide (y1 < x1) = false := decide_eq_false hgt
            go_wp2_with fail
            go_quiet (fail)
            go_wp2_with fail
            go_roundw
            case rel => first | exact ⟨j + 1, i, by go_num, rfl, ⟨HN.out, below_drewN HB1.out _⟩, by omega⟩ | ((repeat apply Exists.intro); exact ⟨⟨j + 1, i, by go_num, rfl, ⟨HN.out, below_drewN HB1.out _⟩, by omega⟩, rfl⟩)
            case measure => simp [intOf]; omega
    · obtain rfl : j = L.length := by omega
      clear hbw
      go_wp2_with fail
      go_ret
      exact ⟨kk, rfl, HK.out.1, HK.out.2⟩
end Go.Proofs.YthehpnhjfnenoabDoor
