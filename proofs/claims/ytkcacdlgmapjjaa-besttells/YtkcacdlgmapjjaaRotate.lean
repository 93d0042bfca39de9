/-
  The library's rotateCmpFunc at routes: what it makes of a row.
-/
import Derived.Test.YtkcacdlgmapjjaaSwapRange
namespace Go.Proofs.Ytkcacdlgmapjjaa
open Go.RowKit
open Go.Sort (SWO PermIn SortedIn swp swp_get swp_size swp_permIn permIn_refl permIn_trans permIn_mono permIn_all)

set_option linter.unusedVariables false in
set_option linter.unusedSimpArgs false in
set_option maxRecDepth 1000000 in
set_option maxHeartbeats 16000000 in
theorem rotate_k (k : Nat) (zE : ∀ w, (Go.sizeOf 31).run Try.prog w = .ok k w) {α : Type} [Inhabited α] (enc : α → List Value) (blk off cap a m b : Nat) (d0 d : Array α) (w0 w : World) (fv : Value) (R : RowK enc k w0 blk off d0) (hs : d0.size = d.size) (S : SWK enc k w0 blk off d w)
    (ham : a < m) (hmb : m < b) (hb : b ≤ d.size) (hsz : d.size ≤ 1000000) :
    Calls Try.prog 32 #[.slice (some ⟨blk, off, none⟩) d.size cap, .int .i64 a, .int .i64 m, .int .i64 b, fv] w fun e w' => e = .returned (.tuple #[]) ∧ ∃ d', SWK enc k w0 blk off d' w' ∧ Rot d d' a m b ∧ PermIn a b d d' := by
  obtain ⟨S0⟩ : Nonempty (Aside (SWK enc k w0 blk off d w)) := ⟨S⟩
  clear S
  obtain ⟨HC⟩ : Nonempty (Hid (∀ (x y n : Nat) (dk : Array α) (wr : World), dk.size = d.size → SWK enc k w0 blk off dk wr → x + n ≤ y → y + n ≤ d.size →
      Calls Try.prog 33 #[.slice (some ⟨blk, off, none⟩) d.size cap, .int .i64 x, .int .i64 y, .int .i64 n, fv] wr fun e w' => e = .returned (.tuple #[]) ∧ ∃ d', SWK enc k w0 blk off d' w' ∧ SwR dk d' x y n ∧ PermIn x (y + n) dk d')) := ⟨fun x y n dk wr h1 h2 h3 h4 => by
    have := swapRange_k k zE enc blk off cap x y n d0 dk w0 wr fv R (by omega) h2 h3 (by omega) (by omega)
    rwa [h1] at this⟩
  clear R zE
  have r1 : IntKind.i64.wrap ((m : Int) - (a : Int)) = (m : Int) - (a : Int) := by rw [IntKind.wrap_i64]; omega
  have r2 : IntKind.i64.wrap ((b : Int) - (m : Int)) = (b : Int) - (m : Int) := by rw [IntKind.wrap_i64]; omega
  go_enter Try.func32, Try.ntmps32
  go_wp2_with fail
  clear r1 r2
  go_loopw [10, 11] (fun vi vj wr => ∃ (i j : Nat) (dk : Array α), vi = .int .i64 i ∧ vj = .int .i64 j ∧ 0 < i ∧ 0 < j ∧ a + i ≤ m ∧ m + j ≤ b ∧ dk.size = d.size ∧ Aside (SWK enc k w0 blk off dk wr) ∧ Hid ((∀ d', Rot dk d' (m - i) m (m + j) → Rot d d' a m b) ∧ PermIn a b d dk))
    (fun vi vj _ => (intOf vi).toNat + (intOf vj).toNat)
  case atStart =>
    refine ⟨m - a, b - m, d, by go_num, by go_num, by omega, by omega, by omega, by omega, rfl, S0, fun d' h => ?_, permIn_refl _ _ _⟩
    rw [show m - (m - a) = a by omega, show m + (b - m) = b by omega] at h
    exact h
  case round =>
    clear S0
    obtain ⟨i, j, dk, rfl, rfl, hi0, hj0, hi, hj, hds, SW, HR⟩ := hrel
    have x1 : IntKind.i64.wrap ((m : Int) - (i : Int)) = (m : Int) - (i : Int) := by rw [IntKind.wrap_i64]; omega
    by_cases hij : i = j
    · subst hij
      have hc := HC.out (m - i) m i dk wr hds SW.out (by omega) (by omega)
      rw [show ((m - i : Nat) : Int) = (m : Int) - (i : Int) by omega] at hc
      clear HC
      go_wp2_with (go_at_call 33; refine hc.mono ?_; rintro e w1 ⟨rfl, d1, S1, R1, P1⟩)
      go_end0
      refine ⟨rfl, d1, S1, HR.out.1 d1 (rot_even (by omega) R1), permIn_trans _ _ _ _ _ HR.out.2 (permIn_mono _ _ _ _ _ _ (by omega) (by omega) (by omega) P1)⟩
    · have hne : ((i : Int) == (j : Int)) = false := beq_eq_false_iff_ne.2 (by omega)
      have hne' : ((i : Int) != (j : Int)) = true := by rw [bne, hne]; rfl
      by_cases hgt : j < i
      · have hgtz : (j : Int) < (i : Int) := by omega
        have x2 : IntKind.i64.wrap ((i : Int) - (j : Int)) = (i : Int) - (j : Int) := by rw [IntKind.wrap_i64]; omega
        have hc := HC.out (m - i) m j dk wr hds SW.out (by omega) (by omega)
        rw [show ((m - i : Nat) : Int) = (m : Int) - (i : Int) by omega] at hc
        clear hij
        go_wp2_with (go_at_call 33; refine hc.mono ?_; rintro e w1 ⟨rfl, d1, S1, R1, P1⟩)
        go_roundw
        case rel =>
          have hs1 : d1.size = dk.size := R1.1
          refine ⟨i - j, j, d1, by go_num, rfl, by omega, hj0, by omega, hj, by omega, S1, fun d' h => HR.out.1 d' (rot_more (by omega) hgt R1 h), permIn_trans _ _ _ _ _ HR.out.2 (permIn_mono _ _ _ _ _ _ (by omega) (by omega) (by omega) P1)⟩
        case measure => simp [intOf]; omega
      · have hgtz : ¬ (j : Int) < (i : Int) := by omega
        have x2 : IntKind.i64.wrap ((j : Int) - (i : Int)) = (j : Int) - (i : Int) := by rw [IntKind.wrap_i64]; omega
        have x3 : IntKind.i64.wrap ((m : Int) + (j : Int)) = (m : Int) + (j : Int) := by rw [IntKind.wrap_i64]; omega
        have x4 : IntKind.i64.wrap ((m : Int) + (j : Int) - (i : Int)) = (m : Int) + (j : Int) - (i : Int) := by rw [IntKind.wrap_i64]; omega
        have hc := HC.out (m - i) (m + j - i) i dk wr hds SW.out (by omega) (by omega)
        rw [show ((m - i : Nat) : Int) = (m : Int) - (i : Int) by omega, show ((m + j - i : Nat) : Int) = (m : Int) + (j : Int) - (i : Int) by omega] at hc
        have hlt : i < j := by omega
        obtain ⟨HI⟩ : Nonempty (Hid (i < j)) := ⟨hlt⟩
        clear hij hgt hlt
        go_wp2_with (go_at_call 33; refine hc.mono ?_; rintro e w1 ⟨rfl, d1, S1, R1, P1⟩)
        go_roundw
        case rel =>
          have hs1 : d1.size = dk.size := R1.1
          have hij := HI.out
          refine ⟨i, j - i, d1, rfl, by go_num, hi0, by omega, hi, by omega, by omega, S1, fun d' h => HR.out.1 d' (rot_less (by omega) hij R1 h), permIn_trans _ _ _ _ _ HR.out.2 (permIn_mono _ _ _ _ _ _ (by omega) (by omega) (by omega) P1)⟩
        case measure => have hij := HI.out; simp [intOf]; omega
end Go.Proofs.Ytkcacdlgmapjjaa
