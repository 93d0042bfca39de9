/-
  package fib's gather: a tree's entries, in order, behind those of a slice.
-/
import Derived.Test.YthehpnhjfnenoabDoorFibRow
namespace Go.Proofs.YthehpnhjfnenoabDoor
open Go.RowKit

def kidsE (l r : FT) : Nat → List Ent
  | 0 => []
  | 1 => l.ents
  | _ => l.ents ++ r.ents
theorem kid_at0 (x y : Value) (w : World) : (Instr.index 101 (.agg #[x, y]) (.int .i64 0)).run Tryd.prog w = .ok x w := by kernel_rfl
theorem kid_at1 (x y : Value) (w : World) : (Instr.index 101 (.agg #[x, y]) (.int .i64 1)).run Tryd.prog w = .ok y w := by kernel_rfl
set_option linter.unusedVariables false in
set_option linter.unusedSimpArgs false in
set_option maxRecDepth 100000 in
set_option maxHeartbeats 1000000 in
theorem gather_any (B : Nat) (T : FT) : ∀ (O : List Ent) (v : Value) (w : World), T.In w → (∀ b ∈ T.blocks, b < B) → B ≤ w.heap.size → w.ownsRow B 44 3 v O.length (flat3 O) → O.length + T.ents.length ≤ 1000000 →
    Calls Tryd.prog 42 #[T.ptr, v] w fun r w' => ∃ v', r = .returned v' ∧ w'.ownsRow B 44 3 v' (O ++ T.ents).length (flat3 (O ++ T.ents)) ∧ Below B w w' := by
  induction T with
  | nil =>
    intro O v w _ _ _ hown _
    obtain ⟨HO⟩ : Nonempty (Hid (w.ownsRow B 44 3 v (O ++ FT.nil.ents).length (flat3 (O ++ FT.nil.ents)))) := ⟨by simpa [FT.ents, Hid] using hown⟩
    clear hown
    simp only [FT.ptr]
    go_enter Tryd.func42, Tryd.ntmps42
    go_wp2_with fail
    go_ret
    exact ⟨v, rfl, HO.out, Below.refl _ _⟩
  | node b is e l r ihl ihr =>
    intro O v w hin hlt hBw hown hlen
    obtain ⟨i0, hi, hz0, hz1, hz2⟩ := info_parts3 infoFEnt
    obtain ⟨q0, q1, q2, q3, q4, q5⟩ := node_cells hin.1
    obtain ⟨IL⟩ : Nonempty (Hid (∀ O v w, _)) := ⟨ihl⟩
    obtain ⟨IR⟩ : Nonempty (Hid (∀ O v w, _)) := ⟨ihr⟩
    clear ihl ihr
    obtain ⟨lp, hlp⟩ := FT.ptr_pointer l
    obtain ⟨rp, hrp⟩ := FT.ptr_pointer r
    rw [hlp] at q0 IL
    rw [hrp] at q1 IR
    obtain ⟨HI⟩ : Nonempty (Hid (l.In w ∧ r.In w ∧ b < B ∧ (∀ c ∈ l.blocks, c < B) ∧ (∀ c ∈ r.blocks, c < B) ∧ w.heap.size = w.heap.size)) := ⟨⟨hin.2.1, hin.2.2, hlt b (by simp [FT.blocks]), fun c hc => hlt c (by simp [FT.blocks, hc]), fun c hc => hlt c (by simp [FT.blocks, hc]), rfl⟩⟩
    obtain ⟨HL⟩ : Nonempty (Hid (O.length + ((if is = true then [e] else []) ++ (l.ents ++ r.ents)).length ≤ 1000000)) := ⟨hlen⟩
    obtain ⟨HP⟩ : Nonempty (Hid (l.ptr = .pointer lp ∧ r.ptr = .pointer rp)) := ⟨⟨hlp, hrp⟩⟩
    obtain ⟨⟨ea, en⟩, eh⟩ := e
    simp only at q3 q4 q5
    have hOl : O.length ≤ 1000000 := by have := HL.out; omega
    clear hin hlt hlen hlp hrp
    show Calls Tryd.prog 42 #[.pointer (some ⟨b, 0, none⟩), v] w _
    go_enter Tryd.func42, Tryd.ntmps42
    obtain ⟨O1, HO1⟩ : ∃ O', Hid (O ++ (if is = true then [((ea, en), eh)] else []) = O') := ⟨_, show _ = _ from rfl⟩
    go_upto_if 13 with fail
    go_cut [1] from 13 (fun s w' => ∃ (X : World), Hid (X.ownsRow B 44 3 s O1.length (flat3 O1)) ∧ Below B w X ∧ X = w')
    case first =>
      as_aux_lemma =>
      cases is with
      | false =>
        go_wp2_with fail
        go_meet
        refine ⟨w, ?_, Below.refl _ _, rfl⟩
        have h := HO1.out
        simp only [Bool.false_eq_true, if_false, List.append_nil] at h
        rw [← h]
        exact hown
      | true =>
        replace HO1 : Hid (O ++ [((ea, en), eh)] = O1) := HO1.out
        go_wp2_with (at_builtin; refine wp_push3 rfl _ _ 39 rfl B 44 i0 Tryd.underlying39 hi hz0 hz1 hz2 _ O rfl hown ea en eh _ rfl rfl O1 HO1 (by omega) hBw ?_)
        rintro v' w1 hown' hb1
        clear hown
        go_wp2_with fail
        go_meet
        exact ⟨w1, hown', hb1, rfl⟩
    case rest =>
      as_aux_lemma =>
      obtain ⟨w1, HW, hb1, hX⟩ := hcut
      subst hX
      have k0 := kid_at0
      have k1 := kid_at1
      have p0 : w1.cell? ⟨b, 0, none⟩ = some (.pointer lp) := by rw [hb1.cell HI.out.2.2.1]; exact q0
      have p1 : w1.cell? ⟨b, 1, none⟩ = some (.pointer rp) := by rw [hb1.cell HI.out.2.2.1]; exact q1
      clear q0 q1 q2 q3 q4 q5 hown
      obtain ⟨HLL⟩ : Nonempty (Hid (O1.length + (l.ents.length + r.ents.length) ≤ 1000000)) := ⟨by have h := HL.out; rw [← HO1.out]; simp only [List.length_append] at h ⊢; rw [Hid]; omega⟩
      obtain ⟨HF⟩ : Nonempty (Hid (O1 ++ (l.ents ++ r.ents) = O ++ (FT.node b is ((ea, en), eh) l r).ents)) := ⟨by rw [Hid, ← HO1.out, FT.ents, List.append_assoc]⟩
      have hBw1 : B ≤ w1.heap.size := Nat.le_trans hBw hb1.size
      clear HL HO1 hOl
      go_wp2_with fail
      go_loopw [1, 6, 25] (fun v _ i wr => ∃ (k : Nat) (Z : List Ent), i = .int .i64 k ∧ Hid (k ≤ 2 ∧ Z = O1 ++ kidsE l r k) ∧ Hid (wr.ownsRow B 44 3 v Z.length (flat3 Z)) ∧ Below B w wr) (fun _ _ i _ => 2 - (intOf i).toNat)
      case atStart => exact ⟨0, O1, rfl, ⟨by simp, by simp [kidsE]⟩, HW.out, hb1⟩
      case round =>
        obtain ⟨k, Z, rfl, HZ, HO, hb2⟩ := hrel
        have hk2 := HZ.out.1
        have hin2 := And.intro (in_same l (fun c hc => hb2.block c (HI.out.2.2.2.1 c hc)) HI.out.1) (in_same r (fun c hc => hb2.block c (HI.out.2.2.2.2.1 c hc)) HI.out.2.1)
        have hBr : B ≤ wr.heap.size := Nat.le_trans hBw hb2.size
        rcases (show k = 0 ∨ k = 1 ∨ k = 2 by omega) with rfl | rfl | rfl
        · obtain ⟨HC⟩ : Nonempty (Hid (Calls _ _ _ _ _)) := ⟨IL.out Z _ wr hin2.1 HI.out.2.2.2.1 hBr HO.out (by have h := HLL.out; rw [HZ.out.2]; simp only [kidsE, List.append_nil]; omega)⟩
          clear hin2 IL IR
          go_wp2_with fail
          refine HC.out.mono ?_
          clear HC
          rintro z w3 ⟨v', rfl, hown', hb3⟩
          obtain ⟨HO'⟩ : Nonempty (Hid (w3.ownsRow B 44 3 v' (Z ++ l.ents).length (flat3 (Z ++ l.ents)))) := ⟨hown'⟩
          clear hown'
          go_wp2_with fail
          go_roundw
          case rel => exact ⟨1, Z ++ l.ents, rfl, ⟨by omega, by rw [HZ.out.2]; simp [kidsE]⟩, HO'.out, hb2.trans hb3⟩
          case measure => simp [intOf]
        · obtain ⟨HC⟩ : Nonempty (Hid (Calls _ _ _ _ _)) := ⟨IR.out Z _ wr hin2.2 HI.out.2.2.2.2.1 hBr HO.out (by have h := HLL.out; rw [HZ.out.2]; simp only [kidsE, List.length_append]; omega)⟩
          clear hin2 IL IR
          go_wp2_with fail
          refine HC.out.mono ?_
          clear HC
          rintro z w3 ⟨v', rfl, hown', hb3⟩
          obtain ⟨HO'⟩ : Nonempty (Hid (w3.ownsRow B 44 3 v' (Z ++ r.ents).length (flat3 (Z ++ r.ents)))) := ⟨hown'⟩
          clear hown'
          go_wp2_with fail
          go_roundw
          case rel => exact ⟨2, Z ++ r.ents, rfl, ⟨by omega, by rw [HZ.out.2]; simp [kidsE]⟩, HO'.out, hb2.trans hb3⟩
          case measure => simp [intOf]
        · clear hin2 IL IR
          go_wp2_with fail
          go_ret
          refine ⟨_, rfl, ?_, hb2⟩
          rw [← HF.out]
          have h := HO.out
          rw [HZ.out.2] at h
          exact h
end Go.Proofs.YthehpnhjfnenoabDoor
