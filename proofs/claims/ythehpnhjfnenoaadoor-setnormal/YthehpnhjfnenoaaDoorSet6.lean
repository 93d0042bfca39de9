/-
  Package set's dropEnded: what is over at an address is left out, and whether the next span has it.
-/
import Derived.Test.YthehpnhjfnenoaaDoorSet5
namespace Go.Proofs.YthehpnhjfnenoaaDoor
open Go.RowKit

/-- a row of spans, j of them left out: all of these are over at a. -/
structure Left (w : World) (X : List (Int × Int)) (a : Int) (q : Option Addr) (n c j : Nat) : Prop where
  sum : n + j = X.length
  over : ∀ s ∈ X.take j, s.2 ≤ a
  row : Pairs w q (X.drop j)
  cap : n ≤ c ∧ c ≤ maxLen
theorem Left.below {w w' : World} {X : List (Int × Int)} {a : Int} {q : Option Addr} {n c j : Nat} (h : Left w X a q n c j) (hb : Below w.heap.size w w') : Left w' X a q n c j := ⟨h.sum, h.over, h.row.below hb, h.cap⟩
theorem Left.head {w : World} {X : List (Int × Int)} {a : Int} {q : Option Addr} {n c j : Nat} (h : Left w X a q n c j) (hn : 0 < n) : ∃ b o, q = some ⟨b, o, none⟩ ∧ ∃ hj : j < X.length, w.cell? ⟨b, o, none⟩ = some (.int .i64 X[j].1) ∧ w.cell? ⟨b, o + 1, none⟩ = some (.int .i64 X[j].2) := by
  have hs := h.sum
  have hj : j < X.length := by omega
  obtain ⟨b, o, e, c0, c1⟩ := h.row 0 (by rw [List.length_drop]; omega)
  refine ⟨b, o, e, hj, ?_, ?_⟩
  · simpa using c0
  · simpa using c1
theorem Left.step {w : World} {X : List (Int × Int)} {a : Int} {b o n c j : Nat} (h : Left w X a (some ⟨b, o, none⟩) (n + 1) c j) (hj : j < X.length) (ha : X[j].2 ≤ a) : Left w X a (some ⟨b, o + 2, none⟩) n (c - 1) (j + 1) := by
  have hs := h.sum
  have hc := h.cap
  refine ⟨by omega, over_step h.over hj ha, fun i hi => ?_, by omega⟩
  rw [List.length_drop] at hi
  obtain ⟨b', o', e, c0, c1⟩ := h.row (i + 1) (by rw [List.length_drop]; omega)
  simp only [Option.some.injEq, Addr.mk.injEq, and_true] at e
  obtain ⟨rfl, rfl⟩ := e
  have eL : (X.drop j)[i + 1]'(by rw [List.length_drop]; omega) = (X.drop (j + 1))[i]'(by rw [List.length_drop]; omega) := by
    rw [List.getElem_drop, List.getElem_drop]; congr 1; omega
  rw [eL] at c0 c1
  refine ⟨b, o + 2, rfl, ?_, ?_⟩
  · rw [show o + 2 + i * 2 = o + (i + 1) * 2 by omega]; exact c0
  · rw [show o + 2 + i * 2 + 1 = o + (i + 1) * 2 + 1 by omega]; exact c1
theorem Left.last {w : World} {X : List (Int × Int)} {a : Int} {q q' : Option Addr} {n j : Nat} (h : Left w X a q (n + 1) 1 j) (hj : j < X.length) (ha : X[j].2 ≤ a) : Left w X a q' n 0 (j + 1) := by
  have hs := h.sum
  have hc := h.cap
  exact ⟨by omega, over_step h.over hj ha, fun i hi => by rw [List.length_drop] at hi; omega, by omega⟩

set_option linter.unusedVariables false in
set_option maxRecDepth 100000 in
set_option maxHeartbeats 8000000 in
theorem dropEnded_any (X : List (Int × Int)) (a : Int) (q : Option Addr) (n c j : Nat) (w0 w : World) (hX : Sep X) (hw0 : Below w0.heap.size w0 w) (hL : Left w0 X a q n c j) (hn : n ≤ 1099511627776) :
    Calls Tryd.prog 98 #[.slice q n c, .int .i64 a] w fun e w' => (∃ q' n' c' j', e = .returned (.tuple #[.slice q' n' c', .bool (inSB X a)]) ∧ Left w0 X a q' n' c' j' ∧ n' ≤ n) ∧ Below w.heap.size w w' := by
  have HX : Hid (Sep X) := hX
  obtain ⟨HL⟩ : Nonempty (Hid (Left w0 X a q n c j)) := ⟨hL⟩
  have HB0 : Hid (Below w0.heap.size w0 w) := hw0
  clear hX hL hw0
  go_enter Tryd.func98, Tryd.ntmps98
  go_wp2
  go_loopw [0] (fun v wr => ∃ (q' : Option Addr) (n' c' j' : Nat), v = .slice q' n' c' ∧ Hid (Left w0 X a q' n' c' j') ∧ n' ≤ n ∧ wr = w) (fun v _ => match v with | .slice _ m _ => m | _ => 0)
  case atStart => exact ⟨q, n, c, j, rfl, HL.out, Nat.le_refl _, rfl⟩
  case round =>
    clear HL
    obtain ⟨q1, n1, c1, j1, rfl, HL, hn1, rfl⟩ := hrel
    cases n1 with
    | zero =>
      have hin : inSB X a = false := drop_over HL.out.over (by have := HL.out.sum; omega)
      obtain ⟨HI⟩ : Nonempty (Hid (inSB X a = false)) := ⟨hin⟩
      clear hin
      go_wp2
      go_quiet (fail)
      go_wp2
      exact bodyPost_ret (v := .tuple #[.slice q1 0 c1, .bool false]) (by simp [results, Tryd.results98, go_sem]) rfl ⟨⟨q1, 0, c1, j1, by rw [HI.out], HL.out, Nat.zero_le _⟩, below_drewN (Below.refl _ _) _⟩
    | succ n1 =>
      obtain ⟨b, o, rfl, hj, d0', d1'⟩ := HL.out.head (by omega)
      have d0 := cell_kept HB0.out d0'
      have d1 := cell_kept HB0.out d1'
      clear d0' d1'
      obtain ⟨y0, hy0⟩ : ∃ y, Hid (X[j1].1 = y) := ⟨_, show _ = _ from rfl⟩
      obtain ⟨y1, hy1⟩ : ∃ y, Hid (X[j1].2 = y) := ⟨_, show _ = _ from rfl⟩
      rw [show X[j1].1 = y0 from hy0.out] at d0
      rw [show X[j1].2 = y1 from hy1.out] at d1
      have hcap := HL.out.cap
      by_cases hle : y1 ≤ a
      · have hd : decide (y1 ≤ a) = true := decide_eq_true hle
        by_cases hc1 : c1 = 1
        · subst hc1
          have hn0 : n1 = 0 := by omega
          subst hn0
          obtain ⟨HS⟩ : Nonempty (Hid (Left w0 X a (some ⟨b, o, none⟩) 0 0 (j1 + 1))) := ⟨HL.out.last hj (by rw [show X[j1].2 = y1 from hy1.out]; exact hle)⟩
          go_wp2
          exact ⟨⟨_, 0, 0, j1 + 1, rfl, HS.out, by omega, trivial⟩, by simp⟩
        · obtain ⟨HS⟩ : Nonempty (Hid (Left w0 X a (some ⟨b, o + 2, none⟩) n1 (c1 - 1) (j1 + 1))) := ⟨HL.out.step hj (by rw [show X[j1].2 = y1 from hy1.out]; exact hle)⟩
          go_wp2
          exact ⟨⟨_, n1, c1 - 1, j1 + 1, rfl, HS.out, by omega, trivial⟩, by simp⟩
      · have hd : decide (y1 ≤ a) = false := decide_eq_false hle
        have hin : inSB X a = decide (y0 ≤ a) := by have := drop_in HX.out HL.out.over hj (by rw [show X[j1].2 = y1 from hy1.out]; omega); rw [show X[j1].1 = y0 from hy0.out] at this; exact this
        obtain ⟨HI⟩ : Nonempty (Hid (inSB X a = decide (y0 ≤ a))) := ⟨hin⟩
        have hg : decide ((0 : Int) < (n1 : Int) + 1) = true := decide_eq_true (by omega)
        have hg1 : (0 : Int) < (n1 : Int) + 1 := by omega
        clear hin
        go_wp2
        go_quiet (fail)
        go_wp2
        exact bodyPost_ret (v := .tuple #[.slice (some ⟨b, o, none⟩) (n1 + 1) c1, .bool (decide (y0 ≤ a))]) (by simp [results, Tryd.results98, go_sem]) rfl ⟨⟨_, n1 + 1, c1, j1, by rw [HI.out], HL.out, by omega⟩, below_drewN (Below.refl _ _) _⟩
end Go.Proofs.YthehpnhjfnenoaaDoor
