/-
  package fib's longest: the longest entry with an address, of no more bits than so many.
-/
import Derived.Test.YthehpnhjfnenoabDoorFibTab
namespace Go.Proofs.YthehpnhjfnenoabDoor
open Go.RowKit

set_option linter.unusedVariables false in
set_option linter.unusedSimpArgs false in
set_option maxRecDepth 100000 in
set_option maxHeartbeats 1000000 in
theorem longest_any (tb : Nat) (T : FT) (mo a m : Int) (w : World) (ht : Tab w tb T mo) (hA : isA a = true) (hm0 : 0 ≤ m) (hm : m ≤ 32) (o : Option Ent) (ho : Hid (T.down 0 0 a m none = o)) :
    Calls Tryd.prog 43 #[.pointer (some ⟨tb, 0, none⟩), .int .i64 a, .int .i64 m] w fun r w' => r = .returned (.tuple #[.agg #[.int .i64 (accE o).1.1, .int .i64 (accE o).1.2, .int .i64 (accE o).2], .bool o.isSome]) ∧ Below w.heap.size w w' := by
  obtain ⟨t0, t1, t2⟩ := tab_cells ht.obj
  have htl : tb < w.heap.size := ht.lt tb (by simp)
  obtain ⟨tp, htp⟩ := FT.ptr_pointer T
  rw [htp] at t0
  obtain ⟨HD⟩ : Nonempty (Hid (Down1 w T 0 0 a m none o)) := ⟨⟨ht.ok, rt_00, has_00 hA, ho.out, hm0, ht.inn⟩⟩
  obtain ⟨HTP⟩ : Nonempty (Hid (T.ptr = .pointer tp)) := ⟨htp⟩
  clear ht ho htp
  have hrow0 := Go.heap_alloc_new w (entObj ((0, 0), 0))
  have hrow1 := Go.heap_alloc_new (w.alloc (entObj ((0, 0), 0))) (entObj ((0, 0), 0))
  have hbw : Below w.heap.size w ((w.alloc (entObj ((0, 0), 0))).alloc (entObj ((0, 0), 0))) := ((Below.refl _ _).alloc (Nat.le_refl _) _).alloc (by simp) _
  have hrow0' : ((w.alloc (entObj ((0, 0), 0))).alloc (entObj ((0, 0), 0))).heap[w.heap.size]? = some (entObj ((0, 0), 0)) := by rw [Below.heap_alloc _ _ _ (by simp)]; exact hrow0
  rw [show (w.alloc (entObj ((0, 0), 0))).heap.size = w.heap.size + 1 by simp] at hrow1
  obtain ⟨HW⟩ : Nonempty (Hid (((w.alloc (entObj ((0, 0), 0))).alloc (entObj ((0, 0), 0))).heap[w.heap.size]? = some (entObj ((0, 0), 0)) ∧ ((w.alloc (entObj ((0, 0), 0))).alloc (entObj ((0, 0), 0))).heap[w.heap.size + 1]? = some (entObj ((0, 0), 0)) ∧ Below w.heap.size w ((w.alloc (entObj ((0, 0), 0))).alloc (entObj ((0, 0), 0))))) := ⟨⟨hrow0', hrow1, hbw⟩⟩
  clear hrow0 hrow1 hrow0' hbw
  obtain ⟨sz, hsz⟩ : ∃ b, Hid (w.heap.size = b) := ⟨_, show _ = _ from rfl⟩
  rw [show w.heap.size = sz from hsz.out] at HW ⊢
  go_enter Tryd.func43, Tryd.ntmps43
  go_wp2_with fail
  rw [show w.heap.size = sz from hsz.out]
  go_loopw [9, 10, 11] (fun is n g wr => ∃ (S : FT) (base k : Int) (acc : Option Ent) (u : Option Addr), n = .pointer u ∧ g = .int .i64 k ∧ is = .bool acc.isSome ∧ Hid (Down1 w S base k a m acc o ∧ S.ptr = .pointer u) ∧ Hid (wr.heap[sz]? = some (entObj ((0, 0), 0)) ∧ wr.heap[sz + 1]? = some (entObj (accE acc))) ∧ Below sz w wr) (fun _ _ g _ => (33 - intOf g).toNat)
  case atStart => exact ⟨T, 0, 0, none, tp, rfl, rfl, rfl, ⟨HD.out, HTP.out⟩, ⟨HW.out.1, HW.out.2.1⟩, HW.out.2.2⟩
  case round =>
    obtain ⟨S, base, k, acc, u, rfl, rfl, rfl, HS, HB, hb⟩ := hrel
    cases S with
    | nil =>
      obtain rfl : none = u := by have := HS.out.2; simpa [FT.ptr] using this
      have hacc : acc = o := HS.out.1.down
      subst hacc
      obtain ⟨r0, r1, r2⟩ := ent_cells HB.out.1
      obtain ⟨f0, f1, f2⟩ := ent_cells HB.out.2
      have z0 := ent_frozen HB.out.1
      have HE := ent_cells (ent_store HB.out.1 (accE acc).1.1 (accE acc).1.2 (accE acc).2)
      obtain ⟨s0, s1, s2⟩ := HE
      go_wp2_with fail
      exact bodyPost_ret (v := .tuple #[.agg #[.int .i64 (accE acc).1.1, .int .i64 (accE acc).1.2, .int .i64 (accE acc).2], .bool acc.isSome]) (by simp [results, Tryd.results43, go_sem, s0, s1, s2]) rfl ⟨rfl, ((hb.setCell (Nat.le_refl _) _).setCell (Nat.le_refl _) _).setCell (Nat.le_refl _) _⟩
    | node b is e l r =>
      obtain rfl : some ⟨b, 0, none⟩ = u := by have := HS.out.2; simpa [FT.ptr] using this
      obtain ⟨⟨ea, en⟩, eh⟩ := e
      obtain ⟨acc', Hacc⟩ : ∃ x, Hid ((if is = true then some ((ea, en), eh) else acc) = x) := ⟨_, show _ = _ from rfl⟩
      obtain ⟨HL⟩ : Nonempty (Hid (b < w.heap.size)) := ⟨(Array.getElem?_eq_some_iff.1 HS.out.1.inn.1).1⟩
      obtain ⟨q0, q1, q2, q3, q4, q5⟩ := node_cells (show wr.heap[b]? = _ by rw [hb.block b (by rw [← hsz.out]; exact HL.out)]; exact HS.out.1.inn.1)
      simp only at q3 q4 q5
      have hk0 : 0 ≤ k := (rt_len HS.out.1.rt).1
      have hkm' : k ≤ m := HS.out.1.le
      go_upto_if 23 with fail
      go_cut [9] from 16 to 38 (fun s w' => ∃ X : World, s = .bool acc'.isSome ∧ Hid (X.heap[sz]? = some (entObj ((0, 0), 0)) ∧ X.heap[sz + 1]? = some (entObj (accE acc'))) ∧ Below sz w X ∧ X = w')
      case first =>
        as_aux_lemma =>
        cases is with
        | false =>
          have h := Hacc.out
          simp only [Bool.false_eq_true, if_false] at h
          subst h
          go_wp2_with fail
          go_meet
          exact ⟨wr, rfl, HB.out, hb, rfl⟩
        | true =>
          have h := Hacc.out
          simp only [if_true] at h
          subst h
          have z0 := ent_frozen HB.out.2
          obtain ⟨f0, f1, f2⟩ := ent_cells HB.out.2
          obtain ⟨HE⟩ : Nonempty (Hid (_ ∧ _)) := ⟨And.intro (ent_store HB.out.2 ea en eh) ((ent_far (b := sz + 1) (c := sz) (by omega) (.int .i64 ea) (.int .i64 en) (.int .i64 eh)).trans HB.out.1)⟩
          go_wp2_with fail
          go_meet
          exact ⟨_, rfl, ⟨HE.out.2, HE.out.1⟩, ((hb.setCell (by simp) _).setCell (by simp) _).setCell (by simp) _, rfl⟩
      case rest =>
        as_aux_lemma =>
        obtain ⟨X, rfl, HX, hbX, hX⟩ := hcut
        subst hX
        clear q0 q1 q2 q3 q4 q5 HB hb
        by_cases hkm : k = m
        · have hacc : acc' = o := by rw [← Hacc.out]; exact down1_break HS.out.1 hkm
          have hkm' : (k == m) = true := by simpa using hkm
          clear hkm
          subst hacc
          obtain ⟨r0, r1, r2⟩ := ent_cells HX.out.1
          obtain ⟨f0, f1, f2⟩ := ent_cells HX.out.2
          have z0 := ent_frozen HX.out.1
          obtain ⟨s0, s1, s2⟩ := ent_cells (ent_store HX.out.1 (accE acc').1.1 (accE acc').1.2 (accE acc').2)
          go_wp2_with fail
          exact bodyPost_ret (v := .tuple #[.agg #[.int .i64 (accE acc').1.1, .int .i64 (accE acc').1.2, .int .i64 (accE acc').2], .bool acc'.isSome]) (by simp [results, Tryd.results43, go_sem, s0, s1, s2]) rfl ⟨rfl, ((hbX.setCell (Nat.le_refl _) _).setCell (Nat.le_refl _) _).setCell (Nat.le_refl _) _⟩
        · have hkm2 : (k == m) = false := by simpa using hkm
          cases hi : hiB base k a with
          | true =>
            have hbit : Hid (bitI base k a = 1) := by simp [bitI, hi, Hid]
            obtain ⟨ku, hku⟩ := FT.ptr_pointer r
            have hcl : X.cell? ⟨b, 1, none⟩ = some (.pointer ku) := by rw [← hku, hbX.cell (by rw [← hsz.out]; exact HL.out)]; exact (node_cells HS.out.1.inn.1).2.1
            obtain ⟨HN⟩ : Nonempty (Hid (Down1 w r (base + pw (k + 1)) (k + 1) a m acc' o ∧ r.ptr = .pointer ku)) := ⟨by rw [← Hacc.out]; exact down1_hi HS.out.1 hkm hm hi, hku⟩
            have hlt : k < 32 := by have := HS.out.1.le; omega
            have hr := HS.out.1.rt
            have hh := HS.out.1.has
            clear hku hkm
            go_wp2_with fail
            go_quiet ((go_at_call 63; exact Calls.quiet_of_same (bit_any base k a 1 _ hr hlt hh hbit)))
            go_wp2_with fail
            go_roundw
            case rel => exact ⟨r, base + pw (k + 1), k + 1, acc', ku, rfl, by go_num, rfl, HN.out, HX.out, below_drewN hbX _⟩
            case measure => simp [intOf]; omega
          | false =>
            have hbit : Hid (bitI base k a = 0) := by simp [bitI, hi, Hid]
            obtain ⟨ku, hku⟩ := FT.ptr_pointer l
            have hcl : X.cell? ⟨b, 0, none⟩ = some (.pointer ku) := by rw [← hku, hbX.cell (by rw [← hsz.out]; exact HL.out)]; exact (node_cells HS.out.1.inn.1).1
            obtain ⟨HN⟩ : Nonempty (Hid (Down1 w l (base) (k + 1) a m acc' o ∧ l.ptr = .pointer ku)) := ⟨by rw [← Hacc.out]; exact down1_lo HS.out.1 hkm hm hi, hku⟩
            have hlt : k < 32 := by have := HS.out.1.le; omega
            have hr := HS.out.1.rt
            have hh := HS.out.1.has
            clear hku hkm
            go_wp2_with fail
            go_quiet ((go_at_call 63; exact Calls.quiet_of_same (bit_any base k a 0 _ hr hlt hh hbit)))
            go_wp2_with fail
            go_roundw
            case rel => exact ⟨l, base, k + 1, acc', ku, rfl, by go_num, rfl, HN.out, HX.out, below_drewN hbX _⟩
            case measure => simp [intOf]; omega
end Go.Proofs.YthehpnhjfnenoabDoor
