/-
  Slices of whole numbers in memory; the document's InInts and SameInts.
-/
import Derived.Test.YtkcacdlgmapjjaaBase0
import Derived.OwnWalk
namespace Go.Proofs.Ytkcacdlgmapjjaa
open Go.RowKit

/-- what a slice at p holds: whole numbers. -/
def Ints (w : World) (p : Option Addr) (L : List Int) : Prop :=
  ∀ i (h : i < L.length), ∃ b o, p = some ⟨b, o, none⟩ ∧ w.cell? ⟨b, o + i, none⟩ = some (.int .i64 L[i])
theorem Ints.below {w w' : World} {p : Option Addr} {L : List Int} (h : Ints w p L) (hb : Below w.heap.size w w') : Ints w' p L := fun i hi => by
  obtain ⟨b, o, e, c⟩ := h i hi
  exact ⟨b, o, e, cell_kept hb c⟩
theorem ints_nil (w : World) (p : Option Addr) : Ints w p [] := fun i hi => by simp at hi


theorem ints_differ {L M : List Int} (j : Nat) (h1 : j < L.length) (h2 : j < M.length) (h : L[j] ≠ M[j]) : L ≠ M := by
  intro e; subst e; exact h rfl
set_option linter.unusedVariables false in
set_option maxRecDepth 100000 in
set_option maxHeartbeats 1000000 in
theorem rSameInts_any (p q : Option Addr) (L M : List Int) (k m cap cap' : Nat) (w : World) (h : Ints w p L) (h' : Ints w q M) (hk : k = L.length) (hm : m = M.length) (hl : L.length ≤ 1000000) (hl' : M.length ≤ 1000000) :
    Calls Try.prog 26 #[.slice p k cap, .slice q m cap'] w fun r w' => r = .returned (.bool (decide (L = M))) ∧ Below w.heap.size w w' := by
  subst hk hm
  obtain ⟨HE⟩ : Nonempty (Hid (Ints w p L ∧ Ints w q M)) := ⟨⟨h, h'⟩⟩
  obtain ⟨B, hB⟩ : ∃ b, Hid (w.heap.size = b) := ⟨_, show _ = _ from rfl⟩
  rw [show w.heap.size = B from hB.out]
  obtain ⟨cb, hcb⟩ : ∃ b, Hid (decide (L = M) = b) := ⟨_, show _ = _ from rfl⟩
  rw [show decide (L = M) = cb from hcb.out]
  clear h h'
  by_cases hlen : L.length = M.length
  · have hlen' : ((L.length : Int) == (M.length : Int)) = true := by rw [beq_iff_eq]; omega
    obtain ⟨HL⟩ : Nonempty (Hid (L.length = M.length)) := ⟨hlen⟩
    clear hlen
    go_enter Try.func26, Try.ntmps26
    go_wp2_with fail
    go_loopw [5] (fun i wr => ∃ (j : Nat), i = .int .i64 j ∧ Hid ((∀ i (_ : i < j) (h : i < L.length) (h2 : i < M.length), L[i] = M[i]) ∧ Below B w wr) ∧ j ≤ L.length) (fun i _ => L.length - (intOf i).toNat)
    case atStart => exact ⟨0, rfl, ⟨fun i h => by omega, Below.refl _ _⟩, Nat.zero_le _⟩
    case round =>
      obtain ⟨j, rfl, HK, hjl⟩ := hrel
      have hbw := HK.out.2
      rw [← show w.heap.size = B from hB.out] at hbw
      by_cases hlt : j < L.length
      · have q3 : (j : Int) < L.length := by omega
        have hlt2 : j < M.length := by rw [← HL.out]; exact hlt
        have q4 : (j : Int) < M.length := by omega
        obtain ⟨b, o, rfl, x0c⟩ := HE.out.1 j hlt
        obtain ⟨b', o', rfl, y0c⟩ := HE.out.2 j hlt2
        have d0 := cell_kept hbw x0c
        have d1 := cell_kept hbw y0c
        obtain ⟨x, hx⟩ : ∃ x, Hid (L[j] = x) := ⟨_, show _ = _ from rfl⟩
        obtain ⟨y, hy⟩ : ∃ x, Hid (M[j] = x) := ⟨_, show _ = _ from rfl⟩
        rw [hx.out] at d0
        rw [hy.out] at d1
        clear x0c y0c hbw
        by_cases he : x = y
        · have he' : (x == y) = true := by rw [beq_iff_eq]; exact he
          obtain ⟨HN⟩ : Nonempty (Hid (∀ i (_ : i < j + 1) (h : i < L.length) (h2 : i < M.length), L[i] = M[i])) := ⟨fun i h1 h2 h3 => by
            rcases Nat.lt_or_ge i j with h | h
            · exact HK.out.1 i h h2 h3
            · obtain rfl : i = j := by omega
              rw [hx.out, hy.out]; exact he⟩
          clear he
          go_wp2_with fail
          go_quiet (fail)
          go_wp2_with fail
          go_roundw
          case rel => first | exact ⟨j + 1, by go_num, ⟨HN.out, below_drewN HK.out.2 _⟩, by omega⟩ | ((repeat apply Exists.intro); exact ⟨⟨j + 1, by go_num, ⟨HN.out, below_drewN HK.out.2 _⟩, by omega⟩, rfl⟩)
          case measure => simp [intOf]; omega
        · have he' : (x == y) = false := beq_eq_false_iff_ne.2 he
          obtain rfl : false = cb := by
            rw [← hcb.out]; symm
            exact decide_eq_false (ints_differ j hlt hlt2 (by rw [hx.out, hy.out]; exact he))
          clear he
          go_wp2_with fail
          go_quiet (fail)
          go_wp2_with fail
          go_ret
          exact ⟨rfl, below_drewN HK.out.2 _⟩
      · obtain rfl : j = L.length := by omega
        clear hbw
        obtain rfl : true = cb := by
          rw [← hcb.out]; symm
          exact decide_eq_true (List.ext_getElem HL.out (fun i h1 h2 => HK.out.1 i h1 h1 h2))
        go_wp2_with fail
        go_ret
        exact ⟨rfl, HK.out.2⟩
  · have hlen' : ((L.length : Int) == (M.length : Int)) = false := by rw [beq_eq_false_iff_ne]; omega
    obtain rfl : false = cb := by
      rw [← hcb.out]; symm
      exact decide_eq_false (fun e => hlen (by rw [e]))
    clear hlen
    go_enter Try.func26, Try.ntmps26
    go_wp2_with fail
    go_ret
    exact ⟨rfl, Below.refl _ _⟩
end Go.Proofs.Ytkcacdlgmapjjaa
