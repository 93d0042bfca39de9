/-
  The document's list of numbers (herepathref1.list): what it returns.
-/
import Derived.Test.YtkebcfjofeoehaaGreatDoorAttrRow
import Derived.Test.YtkebcfjofeoehaaGreatDoorRef4
namespace Go.Proofs.YtkebcfjofeoehaaGreatDoor
open Go.RowKit

/-- numbers written one behind another, a byte between two; a dash where there is none. -/
def joinN (c : UInt8) : List Int → List UInt8
  | [] => [45]
  | x :: r => Lib.itoa x ++ r.flatMap (fun y => c :: Lib.itoa y)
theorem joinN_more (c : UInt8) (L : List Int) (k : Nat) (h0 : 0 < k) (h : k < L.length) : joinN c (L.take (k + 1)) = joinN c (L.take k) ++ [c] ++ Lib.itoa L[k] := by
  cases L with
  | nil => simp at h
  | cons x r =>
    cases k with
    | zero => omega
    | succ j =>
      have hj : j < r.length := by simpa using h
      rw [List.take_succ_cons, List.take_succ_cons]
      simp only [joinN]
      rw [List.take_succ_eq_append_getElem hj, List.flatMap_append]
      simp only [List.flatMap_cons, List.flatMap_nil, List.append_nil, List.append_assoc, List.singleton_append, List.getElem_cons_succ]
theorem aItoa_len (n : Int) (h0 : -9223372036854775807 ≤ n) (h1 : n ≤ 9223372036854775807) : (Lib.itoa n).length ≤ 21 := by
  unfold Lib.itoa
  split
  · have := decDigits_len n.natAbs (by omega)
    simp; omega
  · have := decDigits_len n.toNat (by omega)
    omega
theorem joinN_len (c : UInt8) (L : List Int) (hr : ∀ x ∈ L, -9223372036854775807 ≤ x ∧ x ≤ 9223372036854775807) : (joinN c L).length ≤ 22 * L.length + 1 := by
  cases L with
  | nil => simp [joinN]
  | cons x r =>
    have h0 := aItoa_len x (hr x (by simp)).1 (hr x (by simp)).2
    have h1 : ∀ r : List Int, (∀ x ∈ r, -9223372036854775807 ≤ x ∧ x ≤ 9223372036854775807) → (r.flatMap (fun y => c :: Lib.itoa y)).length ≤ 22 * r.length := by
      intro r
      induction r with
      | nil => intro _; simp
      | cons y r ih =>
        intro hy
        have := ih (fun x hx => hy x (by simp [hx]))
        have h2 := aItoa_len y (hy y (by simp)).1 (hy y (by simp)).2
        simp only [List.flatMap_cons, List.length_append, List.length_cons]
        omega
    have h2 := h1 r (fun y hy => hr y (by simp [hy]))
    simp only [joinN, List.length_append, List.length_cons]
    omega
theorem rDecimal_l (n : Int) (l : List UInt8) (hl : Hid (Lib.itoa n = l)) (h0 : -9223372036854775807 ≤ n) (h1 : n ≤ 9223372036854775807) (w : World) :
    Calls Tryz.prog 49 #[.int .i64 n] w fun e w' => e = .returned (.string ⟨l.toArray⟩) ∧ Below w.heap.size w w' := by
  rw [← hl.out]
  exact rDecimal_any n h0 h1 w

set_option linter.unusedVariables false in
set_option maxRecDepth 100000 in
set_option maxHeartbeats 2000000 in
theorem rList_any (p : Option Addr) (L : List Int) (c : UInt8) (k cap : Nat) (w : World) (h : Ints w p L) (hk : k = L.length) (hl : L.length ≤ 1000) (hr : ∀ x ∈ L, -9223372036854775807 ≤ x ∧ x ≤ 9223372036854775807) :
    Calls Tryz.prog 48 #[.slice p k cap, .string ⟨#[c]⟩] w fun r w' => r = .returned (.string ⟨(joinN c L).toArray⟩) ∧ Below w.heap.size w w' := by
  subst hk
  by_cases h0 : L.length = 0
  · obtain rfl : L = [] := List.eq_nil_of_length_eq_zero h0
    clear h h0 hr
    go_enter Tryz.func48, Tryz.ntmps48
    go_wp2_with fail
    go_ret
    exact ⟨rfl, Below.refl _ _⟩
  · have hz : ((L.length : Int) == 0) = false := by rw [beq_eq_false_iff_ne]; omega
    have hpos : 0 < L.length := by omega
    have q0 : (0 : Int) < L.length := by omega
    obtain ⟨b, o, rfl, x0c⟩ := h 0 hpos
    obtain ⟨HE⟩ : Nonempty (Hid (Ints w (some ⟨b, o, none⟩) L ∧ ∀ x ∈ L, -9223372036854775807 ≤ x ∧ x ≤ 9223372036854775807)) := ⟨⟨h, hr⟩⟩
    obtain ⟨B, hB⟩ : ∃ b, Hid (w.heap.size = b) := ⟨_, show _ = _ from rfl⟩
    obtain ⟨x, hx⟩ : ∃ x, Hid (L[0] = x) := ⟨_, show _ = _ from rfl⟩
    obtain ⟨HXR⟩ : Nonempty (Hid (-9223372036854775807 ≤ x ∧ x ≤ 9223372036854775807)) := ⟨by have := hr L[0] (List.getElem_mem hpos); rw [hx.out] at this; exact this⟩
    rw [show L[0] = x from hx.out] at x0c
    obtain ⟨l0, hl0⟩ : ∃ l, Hid (Lib.itoa x = l) := ⟨_, show _ = _ from rfl⟩
    obtain ⟨HJ⟩ : Nonempty (Hid (joinN c (L.take 1) = l0)) := ⟨by
      show _ = _
      rw [← hl0.out, ← hx.out]
      cases L with
      | nil => simp at hpos
      | cons a r => simp [joinN]⟩
    obtain ⟨lf, hlf⟩ : ∃ l, Hid (joinN c L = l) := ⟨_, show _ = _ from rfl⟩
    rw [show joinN c L = lf from hlf.out]
    clear h hr h0
    rw [show w.heap.size = B from hB.out]
    rw [Nat.add_zero] at x0c
    go_enter Tryz.func48, Tryz.ntmps48
    go_wp2_with fail
    refine (rDecimal_l x l0 hl0 HXR.out.1 HXR.out.2 _).mono ?_
    rintro e w1 ⟨rfl, hb1⟩
    obtain ⟨HB1⟩ : Nonempty (Hid (Below B w w1)) := ⟨by rw [← show w.heap.size = B from hB.out]; exact hb1⟩
    clear hb1 x0c
    go_wp2_with fail
    go_loopw [5, 6] (fun s i wr => ∃ (k : Nat) (l : List UInt8), i = .int .i64 k ∧ s = .string ⟨l.toArray⟩ ∧ Hid (joinN c (L.take k) = l ∧ 1 ≤ k ∧ Below B w wr) ∧ k ≤ L.length) (fun _ i _ => L.length - (intOf i).toNat)
    case atStart => exact ⟨1, l0, rfl, rfl, ⟨HJ.out, Nat.le_refl _, HB1.out⟩, hpos⟩
    case round =>
      clear HJ HB1 hz hpos q0 hl0 HXR hx
      obtain ⟨k, l, rfl, rfl, HK, hkl⟩ := hrel
      by_cases hlt : k < L.length
      · have q3 : (k : Int) < L.length := by omega
        obtain ⟨b', o', he, y0c⟩ := HE.out.1 k hlt
        simp only [Option.some.injEq, Addr.mk.injEq, and_true] at he
        obtain ⟨rfl, rfl⟩ := he
        have hbw : Below w.heap.size w wr := by rw [show w.heap.size = B from hB.out]; exact HK.out.2.2
        have d0 := cell_kept hbw y0c
        obtain ⟨y, hy⟩ : ∃ x, Hid (L[k] = x) := ⟨_, show _ = _ from rfl⟩
        rw [show L[k] = y from hy.out] at d0
        obtain ⟨HYR⟩ : Nonempty (Hid (-9223372036854775807 ≤ y ∧ y ≤ 9223372036854775807)) := ⟨by have := HE.out.2 L[k] (List.getElem_mem hlt); rw [hy.out] at this; exact this⟩
        obtain ⟨ly, hly⟩ : ∃ l, Hid (Lib.itoa y = l) := ⟨_, show _ = _ from rfl⟩
        obtain ⟨m1, hm1⟩ : ∃ m, Hid (l ++ [c] = m) := ⟨_, show _ = _ from rfl⟩
        obtain ⟨m2, hm2⟩ : ∃ m, Hid (m1 ++ ly = m) := ⟨_, show _ = _ from rfl⟩
        have hn1 : l.length ≤ 22022 := by
          have := joinN_len c (L.take k) (fun x hx => HE.out.2 x (List.mem_of_mem_take hx))
          rw [HK.out.1, List.length_take] at this
          omega
        have hn2 : m1.length ≤ 22023 := by rw [← hm1.out]; simp; omega
        have hn3 : ly.length ≤ 21 := by rw [← hly.out]; exact aItoa_len y HYR.out.1 HYR.out.2
        have qa : ∀ w, (Op.stringOp .add ⟨l.toArray⟩ ⟨#[c]⟩).run Tryz.prog w = .ok (.string ⟨m1.toArray⟩) w := fun w => by rw [← hm1.out]; exact run_string_add_lists w l [c] (by omega) (by simp)
        have qb : ∀ w, (Op.stringOp .add ⟨m1.toArray⟩ ⟨ly.toArray⟩).run Tryz.prog w = .ok (.string ⟨m2.toArray⟩) w := fun w => by rw [← hm2.out]; exact run_string_add_lists w m1 ly (by omega) (by omega)
        obtain ⟨HN⟩ : Nonempty (Hid (joinN c (L.take (k + 1)) = m2)) := ⟨by show _ = _; rw [joinN_more c L k HK.out.2.1 hlt, HK.out.1, hy.out, hly.out, hm1.out, hm2.out]⟩
        clear y0c hbw hn1 hn2 hn3
        go_wp2_with fail
        refine (rDecimal_l y ly hly HYR.out.1 HYR.out.2 _).mono ?_
        rintro e w1 ⟨rfl, hb1⟩
        obtain ⟨HB2⟩ : Nonempty (Hid (Below B w w1)) := ⟨HK.out.2.2.trans (hb1.mono (by have := HK.out.2.2.size; rw [hB.out] at this; exact this))⟩
        clear hb1 d0
        go_wp2_with fail
        go_roundw
        case rel => exact ⟨k + 1, m2, by go_num, rfl, ⟨HN.out, by omega, HB2.out⟩, by omega⟩
        case measure => simp [intOf]; omega
      · obtain rfl : k = L.length := by omega
        obtain rfl : l = lf := by rw [← HK.out.1, List.take_length]; exact hlf.out
        go_wp2_with fail
        go_ret
        exact ⟨rfl, HK.out.2.2⟩
end Go.Proofs.YtkebcfjofeoehaaGreatDoor
