/-
  The law WireBack: it returns true.
-/
import Derived.Test.YtbfdgflbflajdaaGreatDoorWireBad
import Derived.Test.YtbfdgflbflajdaaGreatDoorWireOwn
import Derived.Test.YtbfdgflbflajdaaGreatDoorWireLong
import Derived.Test.YtbfdgflbflajdaaGreatDoorGM
import Derived.Test.YtbfdgflbflajdaaGreatDoorWireBackMath
import Derived.Deep.Cut
import Derived.Deep.CutRange
namespace Go.Proofs.YtbfdgflbflajdaaGreatDoor
open Go.RowKit
open scoped Classical

set_option linter.unusedVariables false in
set_option linter.unusedSimpArgs false in
set_option maxRecDepth 100000 in
set_option maxHeartbeats 40000000 in
theorem wireBack_any (v : Value) (M : Ms) (at0 : Int) (s : ByteArray) (E : Nat → Addr) (m : Int) (w : World) (hE : WireEnv w E m) (h : MsgArg w v M) (hbl : s.size ≤ maxLen) :
    Calls Tryz.prog 5 #[v, .int .i64 at0, .string s] w fun r w' => r = .returned (.bool true) ∧ Below w.heap.size w w' := by
  have hs := h
  obtain ⟨p, c, q, d, rfl, hP, -, hQ⟩ := h
  obtain ⟨K, n, D, L⟩ := M
  simp only at *
  obtain ⟨W, hW⟩ : ∃ W, Hid (w.alloc (.cells #[.string ⟨K.toArray⟩, .int .i64 n, .slice p D.length c, .slice q L.length d] 55) = W) := ⟨_, show _ = _ from rfl⟩
  obtain ⟨x0, x1, x2, x3⟩ := msg_box w (.string ⟨K.toArray⟩) (.int .i64 n) (.slice p D.length c) (.slice q L.length d) (Below.refl _ _)
  obtain ⟨N, hN⟩ : ∃ N, Hid (w.heap.size = N) := ⟨_, show _ = _ from rfl⟩
  obtain ⟨HB⟩ : Nonempty (Hid (Below w.heap.size w W)) := ⟨by rw [← hW.out]; exact below_alloc _ _⟩
  rw [show w.alloc (.cells #[.string ⟨K.toArray⟩, .int .i64 n, .slice p D.length c, .slice q L.length d] 55) = W from hW.out, show w.heap.size = N from hN.out] at x0 x1 x2 x3
  have hbw : ∀ w', Below W.heap.size W w' → Below w.heap.size w w' := fun w' hb => HB.out.trans (hb.mono HB.out.size)
  obtain ⟨HBW⟩ : Nonempty (Hid (∀ w', Below W.heap.size W w' → Below w.heap.size w w')) := ⟨hbw⟩
  obtain ⟨HX⟩ : Nonempty (Hid (∀ w', Below W.heap.size W w' → w'.cell? ⟨N, 0, none⟩ = some (.string ⟨K.toArray⟩) ∧ w'.cell? ⟨N, 1, none⟩ = some (.int .i64 n) ∧ w'.cell? ⟨N, 2, none⟩ = some (.slice p D.length c) ∧ w'.cell? ⟨N, 3, none⟩ = some (.slice q L.length d))) := ⟨fun w' hb => ⟨cell_kept hb x0, cell_kept hb x1, cell_kept hb x2, cell_kept hb x3⟩⟩
  obtain ⟨HEV⟩ : Nonempty (Hid (∀ w', Below W.heap.size W w' → WireEnv w' E m)) := ⟨fun w' hb => hE.below (hbw w' hb)⟩
  obtain ⟨HPQ⟩ : Nonempty (Hid (∀ w', Below W.heap.size W w' → Pairs w' p D ∧ Routes w' q L)) := ⟨fun w' hb => ⟨hP.below (hbw w' hb), (hQ.below (hbw w' hb)).routes⟩⟩
  obtain ⟨HS⟩ : Nonempty (Hid (∀ w', Below W.heap.size W w' → MsgArg w' (.agg #[.string ⟨K.toArray⟩, .int .i64 n, .slice p D.length c, .slice q L.length d]) ⟨K, n, D, L⟩)) := ⟨fun w' hb => hs.below (hbw w' hb)⟩
  obtain ⟨HW0⟩ : Nonempty (Hid (Below W.heap.size W W)) := ⟨Below.refl _ _⟩
  unfold maxLen at hbl
  obtain ⟨bg, hbg⟩ : ∃ b, Hid ((longM ⟨K, n, D, L⟩ || decide (40 < s.size) || decide (at0 < 0)) = b) := ⟨_, show _ = _ from rfl⟩
  clear hE hP hQ hs hbw
  go_enter Tryz.func5, Tryz.ntmps5
  go_upto_region 1 with fail
  rw [show w.alloc (.cells #[.string ⟨K.toArray⟩, .int .i64 n, .slice p D.length c, .slice q L.length d] 55) = W from hW.out, show w.heap.size = N from hN.out]
  go_wp2_with fail
  refine (wired_any E m W (HEV.out _ HW0.out)).mono ?_
  rintro e w1 ⟨rfl, hb1⟩
  obtain ⟨HB1⟩ : Nonempty (Hid (Below W.heap.size W w1)) := ⟨hb1⟩
  obtain ⟨HL⟩ : Nonempty (Hid (Calls Tryz.prog 28 #[.agg #[.string ⟨K.toArray⟩, .int .i64 n, .slice p D.length c, .slice q L.length d]] w1 fun r w' => r = .returned (.int .i64 (if longM ⟨K, n, D, L⟩ then 1 else 0)) ∧ Below w1.heap.size w1 w')) := ⟨longMsg_any _ ⟨K, n, D, L⟩ w1 (HS.out _ HB1.out).msg⟩
  clear hb1 x0 x1 x2 x3
  go_upto_region 2 with fail
  go_cut [40] from 24 (fun s w' => s = .bool bg ∧ Hid (Below W.heap.size W w'))
  case first J0 K0 hJ0 hK0 =>
    obtain ⟨y0, y1, y2, y3⟩ := HX.out _ HB1.out
    obtain ⟨lb, hlb⟩ : ∃ b, Hid (longM ⟨K, n, D, L⟩ = b) := ⟨_, show _ = _ from rfl⟩
    rw [show longM ⟨K, n, D, L⟩ = lb from hlb.out] at HL hbg
    go_wp2_with fail
    refine HL.out.mono ?_
    rintro e w2 ⟨rfl, hb2⟩
    obtain ⟨HB2⟩ : Nonempty (Hid (Below W.heap.size W w2)) := ⟨HB1.out.trans (hb2.mono HB1.out.size)⟩
    clear hb2
    cases lb with
    | true =>
      have e : bg = true := by rw [← hbg.out]; rfl
      go_wp2_with fail
      go_meet
      exact ⟨by rw [e], HB2⟩
    | false =>
      by_cases b1 : 40 < s.size
      · have b1' : decide (40 < (s.size : Int)) = true := decide_eq_true (by omega)
        have e : bg = true := by rw [← hbg.out, decide_eq_true b1]; rfl
        go_wp2_with fail
        go_meet
        exact ⟨by rw [e], HB2⟩
      · have b1' : decide (40 < (s.size : Int)) = false := decide_eq_false (by omega)
        obtain ⟨b2, hb2⟩ : ∃ b, Hid (decide (at0 < 0) = b) := ⟨_, show _ = _ from rfl⟩
        have e : bg = b2 := by rw [← hbg.out, decide_eq_false b1, hb2.out]; cases b2 <;> rfl
        have hb2' : decide (at0 < 0) = b2 := hb2.out
        go_wp2_with fail
        go_meet
        exact ⟨by rw [e], HB2⟩
  case rest =>
    as_aux_lemma =>
      obtain ⟨rfl, HB2⟩ := hcut
      cases bg with
      | true =>
        go_wp2_with fail
        go_ret
        exact ⟨rfl, HBW.out _ HB2.out⟩
      | false =>
        obtain ⟨⟨hlm, hb40⟩, ha0⟩ : (longM ⟨K, n, D, L⟩ = false ∧ s.size ≤ 40) ∧ 0 ≤ at0 := by
          have := hbg.out
          simp only [Bool.or_eq_false_iff, decide_eq_false_iff_not] at this
          exact ⟨⟨this.1.1, by omega⟩, by omega⟩
        obtain ⟨a, rfl⟩ := Int.eq_ofNat_of_zero_le ha0
        have hlf := longM_false hlm
        simp only at hlf
        obtain ⟨HLF⟩ : Nonempty (Hid (D.length ≤ 61 ∧ L.length ≤ 61 ∧ Mod L)) := ⟨⟨hlf.2.1, hlf.2.2.1, fun r hr => by have := hlf.2.2.2 r hr; omega⟩⟩
        obtain ⟨HOW⟩ : Nonempty (Hid (∀ w', Below W.heap.size W w' → Calls Tryz.prog 30 #[.agg #[.string ⟨K.toArray⟩, .int .i64 n, .slice p D.length c, .slice q L.length d]] w' fun r w'' => (∃ v', r = .returned v' ∧ IsMsg w'' v' ⟨K, n, D, L⟩) ∧ Below w'.heap.size w' w'')) := ⟨fun w' hb => ownMsg_any _ ⟨K, n, D, L⟩ w' (HS.out w' hb) (by have := HLF.out.1; simp only; omega) (by have := HLF.out.2.1; simp only; omega) HLF.out.2.2⟩
        obtain ⟨y0, y1, y2, y3⟩ := HX.out _ HB2.out
        clear hlm hlf hbg ha0 HL hbl
        by_cases hgood : (msgC ⟨K, n, D, L⟩).1 = 0
        rotate_left
        · go_wp2_with fail
          refine (HOW.out _ HB2.out).mono ?_
          rintro e w3 ⟨⟨v3, rfl, hv3⟩, hb3⟩
          obtain ⟨HB3⟩ : Nonempty (Hid (Below W.heap.size W w3)) := ⟨HB2.out.trans (hb3.mono HB2.out.size)⟩
          obtain ⟨HTB⟩ : Nonempty (Hid (Calls Tryz.prog 29 #[v3] w3 fun r w' => (∃ t a, r = .returned (.tuple #[.string ⟨#[]⟩, .iface t (.pointer (some a))])) ∧ Below w3.heap.size w3 w')) := ⟨wText_bad v3 ⟨K, n, D, L⟩ E m w3 (HEV.out _ HB3.out) hv3 (by have := HLF.out.1; simp only; omega) (by have := HLF.out.2.1; simp only; omega) HLF.out.2.2 hgood⟩
          obtain ⟨p3, c3, q3, d3, rfl, -, -⟩ := hv3
          clear hb3 hgood y0 y1 y2 y3
          go_wp2_with fail
          refine HTB.out.mono ?_
          rintro e w4 ⟨⟨t4, a4, rfl⟩, hb4⟩
          obtain ⟨HB4⟩ : Nonempty (Hid (Below W.heap.size W w4)) := ⟨HB3.out.trans (hb4.mono HB3.out.size)⟩
          clear hb4
          go_wp2_with fail
          go_ret
          exact ⟨rfl, HBW.out _ HB4.out⟩
        obtain ⟨HM⟩ : Nonempty (Hid (RightM ⟨K, n, D, L⟩)) := ⟨(msgC_zero _).1 hgood⟩
        obtain ⟨T, hT⟩ : ∃ T, Hid (textM ⟨K, n, D, L⟩ = T) := ⟨_, show _ = _ from rfl⟩
        have hTs : (ByteArray.mk T.toArray).size = T.length := by simp [ByteArray.size]
        clear hgood
        go_wp2_with fail
        refine (HOW.out _ HB2.out).mono ?_
        rintro e w3 ⟨⟨v3, rfl, hv3⟩, hb3⟩
        obtain ⟨HB3⟩ : Nonempty (Hid (Below W.heap.size W w3)) := ⟨HB2.out.trans (hb3.mono HB2.out.size)⟩
        obtain ⟨HTB⟩ : Nonempty (Hid (Calls Tryz.prog 29 #[v3] w3 fun r w' => r = .returned (.tuple #[.string ⟨T.toArray⟩, .nilIface]) ∧ Below w3.heap.size w3 w')) := ⟨by
          have := wText_right v3 ⟨K, n, D, L⟩ E m w3 (HEV.out _ HB3.out) hv3 HM.out
          rwa [show textM ⟨K, n, D, L⟩ = T from hT.out] at this⟩
        obtain ⟨p3, c3, q3, d3, rfl, -, -⟩ := hv3
        clear hb3 y0 y1 y2 y3
        go_wp2_with fail
        refine HTB.out.mono ?_
        rintro e w4 ⟨rfl, hb4⟩
        obtain ⟨HB4⟩ : Nonempty (Hid (Below W.heap.size W w4)) := ⟨HB3.out.trans (hb4.mono HB3.out.size)⟩
        clear hb4
        by_cases hlen : 7800 < T.length
        · have hlen' : decide (7800 < (T.length : Int)) = true := decide_eq_true (by omega)
          go_wp2_with fail
          go_ret
          exact ⟨rfl, HBW.out _ HB4.out⟩
        have hlen' : decide (7800 < (T.length : Int)) = false := decide_eq_false (by omega)
        obtain ⟨HRD⟩ : Nonempty (Hid (Calls Tryz.prog 31 #[.string ⟨T.toArray⟩] w4 fun r w' => (∃ v, r = .returned (.tuple #[v, .nilIface]) ∧ IsMsg w' v ⟨K, n, D, L⟩) ∧ Below w4.heap.size w4 w')) := ⟨by
          have := read_right (textM ⟨K, n, D, L⟩) ⟨K, n, D, L⟩ _ E m w4 (HEV.out _ HB4.out) (by rw [hT.out]; omega) (read_text_right HM.out) HM.out
          rwa [show textM ⟨K, n, D, L⟩ = T from hT.out] at this⟩
        go_wp2_with fail
        refine HRD.out.mono ?_
        rintro e w5 ⟨⟨v5, rfl, hv5⟩, hb5⟩
        obtain ⟨HV5⟩ : Nonempty (Hid (IsMsg w5 v5 ⟨K, n, D, L⟩)) := ⟨hv5⟩
        obtain ⟨p5, c5, q5, d5, rfl, -, -⟩ := hv5
        simp only at *
        obtain ⟨W6, hW6⟩ : ∃ W, Hid (w5.alloc (.cells #[.string ⟨K.toArray⟩, .int .i64 n, .slice p5 D.length c5, .slice q5 L.length d5] 55) = W) := ⟨_, show _ = _ from rfl⟩
        obtain ⟨N6, hN6⟩ : ∃ N, Hid (w5.heap.size = N) := ⟨_, show _ = _ from rfl⟩
        obtain ⟨HB6⟩ : Nonempty (Hid (Below W.heap.size W W6 ∧ IsMsg W6 (.agg #[.string ⟨K.toArray⟩, .int .i64 n, .slice p5 D.length c5, .slice q5 L.length d5]) ⟨K, n, D, L⟩ ∧ W6.heap[N6]? = some (.cells #[.string ⟨K.toArray⟩, .int .i64 n, .slice p5 D.length c5, .slice q5 L.length d5] 55 (0, 0)))) := ⟨by
          have h5 := HB4.out.trans (hb5.mono HB4.out.size)
          rw [← hW6.out, ← hN6.out]
          exact ⟨h5.trans ((below_alloc _ _).mono h5.size), HV5.out.below (below_alloc _ _), Go.heap_alloc_new w5 _⟩⟩
        obtain ⟨HSM⟩ : Nonempty (Hid (Calls Tryz.prog 32 #[.agg #[.string ⟨K.toArray⟩, .int .i64 n, .slice p5 D.length c5, .slice q5 L.length d5], .agg #[.string ⟨K.toArray⟩, .int .i64 n, .slice p D.length c, .slice q L.length d]] W6 fun r w' => r = .returned (.bool true) ∧ Below W6.heap.size W6 w')) := ⟨sameMsg_same _ _ ⟨K, n, D, L⟩ W6 HB6.out.2.1 (HS.out _ HB6.out.1).msg (by have := HLF.out.1; simp only; omega) (by have := HLF.out.2.1; simp only; omega) HLF.out.2.2⟩
        clear hb5
        go_upto_region 8 with fail
        rw [show w5.alloc (.cells #[.string ⟨K.toArray⟩, .int .i64 n, .slice p5 D.length c5, .slice q5 L.length d5] 55) = W6 from hW6.out, show w5.heap.size = N6 from hN6.out]
        obtain ⟨y0, y1, y2, y3⟩ := HX.out _ HB6.out.1
        obtain ⟨z0, z1, z2, z3⟩ := heap_cells4 HB6.out.2.2
        go_wp2_with fail
        refine HSM.out.mono ?_
        rintro e w7 ⟨rfl, hb7⟩
        obtain ⟨HB7⟩ : Nonempty (Hid (Below W.heap.size W w7)) := ⟨HB6.out.1.trans (hb7.mono HB6.out.1.size)⟩
        obtain ⟨HTL⟩ : Nonempty (Hid (textM ⟨K, n, D, L⟩ = T ∧ T.length ≤ 7800)) := ⟨⟨hT.out, by omega⟩⟩
        clear hb7 y0 y1 y2 y3 z0 z1 z2 z3 HSM HRD HTB hlen' hlen
        go_upto_region 11 with fail
        go_cut [12] from 24 (fun i w' => i = .int .i64 0 ∧ Hid (Below W.heap.size W w'))
        case first J1 K1 hJ1 hK1 =>
          go_wp2_with fail
          go_meet
          exact ⟨rfl, HB7⟩
        case rest =>
          as_aux_lemma =>
            obtain ⟨rfl, HC0⟩ := hcut
            clear HB2 HB3 HB4 HB6 HB7 HOW hTs
            go_wp2_with fail
            go_loopw [12] (fun i wr => ∃ k : Nat, i = .int .i64 k ∧ k ≤ s.size ∧ Hid ((10 : UInt8) ∉ s.data.toList.take k) ∧ Hid (Below W.heap.size W wr)) (fun i _ => s.size - (intOf i).toNat)
            case atStart => exact ⟨0, rfl, Nat.zero_le _, by show ¬ _; simp, HC0⟩
            case round =>
              obtain ⟨k, rfl, hk, HK, HW⟩ := hrel
              by_cases hlt : k < s.size
              · have q3 : (k : Int) < s.size := by omega
                by_cases h10 : s[k] = 10
                · have h10' : ((s[k].toNat : Int) == 10) = true := by rw [h10]; rfl
                  go_wp2_with fail
                  go_ret
                  exact ⟨rfl, HBW.out _ HW.out⟩
                · have h10' : ((s[k].toNat : Int) == 10) = false := by
                    rw [beq_eq_false_iff_ne]
                    intro e
                    exact h10 (UInt8.toNat_inj.1 (show s[k].toNat = 10 by omega))
                  have hN : Hid ((10 : UInt8) ∉ s.data.toList.take (k + 1)) := by
                    show ¬ _
                    rw [take_snoc s k hlt, List.mem_append]
                    rintro (h | h)
                    · exact HK.out h
                    · simp only [List.mem_singleton] at h
                      exact h10 h.symm
                  clear h10
                  go_wp2_with fail
                  go_roundw
                  case rel => first | exact ⟨k + 1, by go_num, by omega, hN, HW⟩ | ((repeat apply Exists.intro); exact ⟨⟨k + 1, by go_num, by omega, hN, HW⟩, rfl⟩)
                  case measure => simp [intOf]; omega
              · obtain ⟨HNB⟩ : Nonempty (Hid ((10 : UInt8) ∉ s.data.toList)) := ⟨by
                  have := HK.out
                  rwa [List.take_of_length_le (by rw [len_data]; omega)] at this⟩
                have hsl : s.data.toList.length = s.size := len_data s
                obtain ⟨HRA⟩ : Nonempty (Hid (Calls Tryz.prog 10 #[.string s] wr fun r w' => (∃ v, r = .returned (.tuple #[v, ev E (readC s.data.toList).toNat]) ∧ AttrF w' v (readA s.data.toList) wr.heap.size) ∧ Below wr.heap.size wr w')) := ⟨by
                  have := read_own s.data.toList E m wr (HEV.out _ HW.out).at1 (by omega)
                  rwa [Array.toArray_toList] at this⟩
                have hrn := readC_nonneg s.data.toList
                obtain ⟨rc, hrc⟩ : ∃ k, (readC s.data.toList).toNat = k := ⟨_, rfl⟩
                rw [hrc] at HRA
                have hrc0 : rc ≠ 0 → readC s.data.toList ≠ 0 := fun h => by omega
                obtain ⟨HRC⟩ : Nonempty (Hid (rc ≠ 0 → readC s.data.toList ≠ 0)) := ⟨hrc0⟩
                obtain ⟨A, hA⟩ : ∃ A, Hid (readA s.data.toList = A) := ⟨_, show _ = _ from rfl⟩
                rw [show readA s.data.toList = A from hA.out] at HRA
                clear hrc hrn hrc0 hsl HK
                obtain ⟨ew, hew⟩ : ∃ e, Hid (ev E rc = e) := ⟨_, show _ = _ from rfl⟩
                rw [show ev E rc = ew from hew.out] at HRA
                go_wp2_with fail
                refine HRA.out.mono ?_
                rintro e w8 ⟨⟨v8, rfl, hv8⟩, hb8⟩
                obtain ⟨p8, c8, q8, d8, rfl, -⟩ := hv8
                obtain ⟨HB8⟩ : Nonempty (Hid (Below W.heap.size W (w8.alloc (.cells #[.slice p8 A.path.length c8, .int .i64 A.pref, .int .i64 A.med, .int .i64 A.org, .slice q8 A.tags.length d8] 24)))) := ⟨by
                  have h5 := HW.out.trans (hb8.mono HW.out.size)
                  exact h5.trans ((below_alloc _ _).mono h5.size)⟩
                obtain ⟨y0, y1, y2, y3⟩ := HX.out _ HB8.out
                clear hb8
                go_upto_region 17 with fail
                by_cases hal : a < L.length
                rotate_left
                · have hal' : decide (L.length ≤ a) = true := decide_eq_true (by omega)
                  go_wp2_with fail
                  go_ret
                  exact ⟨rfl, HBW.out _ HB8.out⟩
                have hal' : decide (L.length ≤ a) = false := decide_eq_false (by omega)
                by_cases hr0 : rc = 0
                · subst hr0
                  obtain rfl : ew = .nilIface := by rw [← hew.out]; rfl
                  go_wp2_with fail
                  go_ret
                  exact ⟨rfl, HBW.out _ HB8.out⟩
                obtain ⟨u, hu⟩ : ∃ u, ew = .iface 224 (.pointer (some u)) := by
                  obtain ⟨r, rfl⟩ : ∃ r, rc = r + 1 := ⟨rc - 1, by omega⟩
                  exact ⟨E r, hew.out.symm⟩
                subst hu
                by_cases hd60 : 60 ≤ D.length
                · have hd60' : decide (60 ≤ (D.length : Int)) = true := decide_eq_true (by omega)
                  go_wp2_with fail
                  go_ret
                  exact ⟨rfl, HBW.out _ HB8.out⟩
                have hd60' : decide (60 ≤ (D.length : Int)) = false := decide_eq_false (by omega)
                obtain ⟨HBAD⟩ : Nonempty (Hid (readC s.data.toList ≠ 0)) := ⟨HRC.out hr0⟩
                have hkn : K = kNews := by
                  refine Classical.byContradiction fun hk => ?_
                  have := (HM.out.none hk).2
                  simp only at this
                  rw [this] at hal
                  simp at hal
                obtain ⟨HKN⟩ : Nonempty (Hid (K = kNews ∧ D.length < 60 ∧ a < L.length)) := ⟨⟨hkn, by omega, hal⟩⟩
                clear hkn hr0 HRC HRA hew hd60 hal
                go_upto_region 19 with fail
                clear y0 y1 y2 y3
                go_cut [15] from 24 (fun t w' => t = .string ⟨#[110, 101, 119, 115, 10]⟩ ∧ Hid (Below W.heap.size W w'))
                case first J2 K2 hJ2 hK2 =>
                  go_wp2_with fail
                  go_meet
                  exact ⟨rfl, HB8⟩
                case rest =>
                  as_aux_lemma =>
                    obtain ⟨rfl, HC2⟩ := hcut
                    obtain ⟨bb, hbb⟩ : ∃ b, Hid (s.data.toList = b) := ⟨_, show _ = _ from rfl⟩
                    have hsb : s = ⟨bb.toArray⟩ := by rw [← hbb.out, Array.toArray_toList]
                    obtain ⟨HRT⟩ : Nonempty (Hid (RightM ⟨kNews, n, D, L⟩)) := ⟨by
                      have := HM.out
                      rwa [HKN.out.1] at this⟩
                    obtain ⟨HBB⟩ : Nonempty (Hid (readC bb ≠ 0 ∧ (10 : UInt8) ∉ bb ∧ bb.length ≤ 40)) := ⟨by
                      rw [← hbb.out]
                      exact ⟨HBAD.out, HNB.out, by rw [len_data]; exact hb40⟩⟩
                    obtain ⟨HSZ⟩ : Nonempty (Hid (D.length < 60 ∧ a < L.length ∧ L.length ≤ 61)) := ⟨⟨HKN.out.2.1, HKN.out.2.2, HLF.out.2.1⟩⟩
                    subst hsb
                    clear HBAD HNB HC0 HW HB8 hk hlt hal' hd60'
                    have hDl : D.length ≤ 61 := by have := HSZ.out; omega
                    have hLl : L.length ≤ 61 := HSZ.out.2.2
                    go_wp2_with fail
                    go_loopw [15, 16] (fun t i wr => ∃ k : Nat, i = .int .i64 k ∧ k ≤ D.length ∧ t = .string ⟨(tD D k).toArray⟩ ∧ Hid (Below W.heap.size W wr)) (fun _ i _ => D.length - (intOf i).toNat)
                    case atStart => exact ⟨0, rfl, Nat.zero_le _, by unfold tD; simp, HC2⟩
                    case round =>
                      obtain ⟨k, rfl, hk, rfl, HW⟩ := hrel
                      obtain ⟨y0, y1, y2, y3⟩ := HX.out _ HW.out
                      by_cases hlt : k < D.length
                      · have q3 : (k : Int) < D.length := by omega
                        obtain ⟨b0, o0, rfl, e0, e1⟩ := (HPQ.out wr HW.out).1 k hlt
                        have hr1 := HRT.out.drops.rt D[k] (List.getElem_mem hlt)
                        obtain ⟨X, hX⟩ : ∃ X, Hid (tD D k = X) := ⟨_, show _ = _ from rfl⟩
                        obtain ⟨l1, hl1⟩ : ∃ l, Hid (txtP D[k].1 D[k].2 = l) := ⟨_, show _ = _ from rfl⟩
                        have hXl : X.length ≤ 20000 := by rw [← hX.out]; exact tD_len HRT.out.drops.rt hDl k
                        have hll : l1.length ≤ 200 := by rw [← hl1.out]; exact txtP_len hr1
                        obtain ⟨HXX⟩ : Nonempty (Hid (tD D (k + 1) = X ++ [45, 32] ++ l1 ++ [10])) := ⟨by show _ = _; rw [tD_succ D k hlt, hX.out, hl1.out]⟩
                        obtain ⟨z0, hz0⟩ : ∃ z, Hid (D[k].1 = z) := ⟨_, show _ = _ from rfl⟩
                        obtain ⟨z1, hz1⟩ : ∃ z, Hid (D[k].2 = z) := ⟨_, show _ = _ from rfl⟩
                        rw [show D[k].1 = z0 from hz0.out, show D[k].2 = z1 from hz1.out] at hr1 hl1
                        rw [show D[k].1 = z0 from hz0.out] at e0
                        rw [show D[k].2 = z1 from hz1.out] at e1
                        rw [show tD D k = X from hX.out]
                        obtain ⟨HC1⟩ : Nonempty (Hid (Calls Tryz.prog 33 #[.agg #[.int .i64 z0, .int .i64 z1]] wr fun e w'' => e = .returned (.string ⟨l1.toArray⟩) ∧ Below wr.heap.size wr w'')) := ⟨by
                          have := text_any z0 z1 (E 0) (E 1) (E 2) m wr (HEV.out _ HW.out).ip hr1
                          rwa [show txtP z0 z1 = l1 from hl1.out] at this⟩
                        have hs1 : ¬ 9223372036854775807 < X.length + 2 := by omega
                        have hs2 : ¬ 9223372036854775807 < X.length + 2 + l1.length := by omega
                        have hs3 : ¬ 9223372036854775807 < X.length + 2 + l1.length + 1 := by omega
                        clear hr1 hXl hll
                        go_wp2_with fail
                        refine HC1.out.mono ?_
                        rintro e w9 ⟨rfl, hb9⟩
                        obtain ⟨HB9⟩ : Nonempty (Hid (Below W.heap.size W w9)) := ⟨HW.out.trans (hb9.mono HW.out.size)⟩
                        clear hb9
                        go_wp2_with fail
                        go_roundw
                        case rel => exact ⟨k + 1, by go_num, by omega, by rw [HXX.out]; simp [ByteArray.ext_iff, ByteArray.data_append], HB9⟩
                        case measure => simp [intOf]; omega
                      · obtain rfl : k = D.length := by omega
                        go_wp2_with fail
                        clear y0 y1 y2 y3
                        obtain ⟨X0, hX0⟩ : ∃ X, Hid (tD D D.length = X) := ⟨_, show _ = _ from rfl⟩
                        rw [show tD D D.length = X0 from hX0.out]
                        go_loopw [15, 17] (fun t i wr => ∃ k : Nat, i = .int .i64 k ∧ k ≤ L.length ∧ t = .string ⟨(tA D L a bb k).toArray⟩ ∧ Hid (Below W.heap.size W wr)) (fun _ i _ => L.length - (intOf i).toNat)
                        case atStart => exact ⟨0, rfl, Nat.zero_le _, by rw [tA_zero, hX0.out], HW⟩
                        case round =>
                          obtain ⟨k, rfl, hk2, rfl, HW2⟩ := hrel
                          obtain ⟨y0, y1, y2, y3⟩ := HX.out _ HW2.out
                          by_cases hlt2 : k < L.length
                          · have q3 : (k : Int) < L.length := by omega
                            have hR1 := HRT.out.rdst (List.getElem_mem hlt2)
                            have hR2 := HRT.out.rattr (List.getElem_mem hlt2)
                            obtain ⟨b0, o0, rfl, p1, c1, p2, c2, d0, d1, d2, d3, d4, d5, d6, d7, j1, j2⟩ := (HPQ.out wr HW2.out).2 k hlt2
                            have hgd : L.getD k ro0 = L[k] := by simp [List.getD, hlt2]
                            have hbal := badAt_len (fun r hr => HRT.out.rattr hr) a bb HBB.out.2.2 k hlt2
                            have hXl := tA_len HRT.out.drops.rt hDl (fun r hr => HRT.out.rattr hr) (fun r hr => HRT.out.rdst hr) a HSZ.out.2.1 bb HBB.out.2.2 k (by omega)
                            have hsucc := tA_succ D L a bb HSZ.out.2.1 k hlt2
                            have hbat : badAt L a bb k = if k = a then bb else textA L[k].att := by unfold badAt; rw [hgd]
                            obtain ⟨z0, hz0⟩ : ∃ l, Hid (L[k].dst.1 = l) := ⟨_, show _ = _ from rfl⟩
                            obtain ⟨z1, hz1⟩ : ∃ l, Hid (L[k].dst.2 = l) := ⟨_, show _ = _ from rfl⟩
                            obtain ⟨A2, hA2⟩ : ∃ l, Hid (L[k].att = l) := ⟨_, show _ = _ from rfl⟩
                            rw [show L[k].dst.1 = z0 from hz0.out, show L[k].dst.2 = z1 from hz1.out] at hR1 hsucc
                            rw [show L[k].att = A2 from hA2.out] at hR2 hbat
                            rw [show L[k].dst.1 = z0 from hz0.out] at d0
                            rw [show L[k].dst.2 = z1 from hz1.out] at d1
                            rw [show L[k].att = A2 from hA2.out] at d2 d3 d4 d5 d6 j1 j2
                            obtain ⟨l1, hl1⟩ : ∃ l, Hid (txtP z0 z1 = l) := ⟨_, show _ = _ from rfl⟩
                            obtain ⟨l2, hl2⟩ : ∃ l, Hid (textA A2 = l) := ⟨_, show _ = _ from rfl⟩
                            obtain ⟨l3, hl3⟩ : ∃ l, Hid (badAt L a bb k = l) := ⟨_, show _ = _ from rfl⟩
                            obtain ⟨X, hX⟩ : ∃ X, Hid (tA D L a bb k = X) := ⟨_, show _ = _ from rfl⟩
                            have hll := txtP_len hR1
                            rw [show txtP z0 z1 = l1 from hl1.out] at hll hsucc
                            rw [show badAt L a bb k = l3 from hl3.out] at hbal hsucc hbat
                            rw [show textA A2 = l2 from hl2.out] at hbat
                            rw [show tA D L a bb k = X from hX.out] at hXl hsucc ⊢
                            obtain ⟨HXX⟩ : Nonempty (Hid (tA D L a bb (k + 1) = X ++ [43, 32] ++ l1 ++ [32] ++ l3 ++ [10])) := ⟨hsucc⟩
                            obtain ⟨HBT⟩ : Nonempty (Hid (l3 = if k = a then bb else l2)) := ⟨hbat⟩
                            obtain ⟨HCT⟩ : Nonempty (Hid (Calls Tryz.prog 9 #[.agg #[.slice p1 A2.path.length c1, .int .i64 A2.pref, .int .i64 A2.med, .int .i64 A2.org, .slice p2 A2.tags.length c2]] wr fun e w'' => e = .returned (.string ⟨l2.toArray⟩) ∧ Below wr.heap.size wr w'')) := ⟨by
                              have := text_right (.agg #[.slice p1 A2.path.length c1, .int .i64 A2.pref, .int .i64 A2.med, .int .i64 A2.org, .slice p2 A2.tags.length c2]) A2 E m wr (HEV.out _ HW2.out).at1 ⟨p1, c1, p2, c2, rfl, j1, j2⟩ hR2
                              rwa [show textA A2 = l2 from hl2.out] at this⟩
                            obtain ⟨HCP⟩ : Nonempty (Hid (∀ w', Below W.heap.size W w' → Calls Tryz.prog 33 #[.agg #[.int .i64 z0, .int .i64 z1]] w' fun e w'' => e = .returned (.string ⟨l1.toArray⟩) ∧ Below w'.heap.size w' w'')) := ⟨fun w' hb => by
                              have := text_any z0 z1 (E 0) (E 1) (E 2) m w' (HEV.out _ hb).ip hR1
                              rwa [show txtP z0 z1 = l1 from hl1.out] at this⟩
                            obtain ⟨HDST⟩ : Nonempty (Hid (∀ w', Below wr.heap.size wr w' → w'.cell? ⟨b0, o0 + k * 8, none⟩ = some (.int .i64 z0) ∧ w'.cell? ⟨b0, o0 + k * 8 + 1, none⟩ = some (.int .i64 z1))) := ⟨fun w' hb => ⟨cell_kept hb d0, cell_kept hb d1⟩⟩
                            have hs1 : ¬ 9223372036854775807 < X.length + 2 := by omega
                            have hs2 : ¬ 9223372036854775807 < X.length + 2 + l1.length := by omega
                            have hs3 : ¬ 9223372036854775807 < X.length + 2 + l1.length + 1 := by omega
                            have hs4 : ¬ 9223372036854775807 < X.length + 2 + l1.length + 1 + l3.length := by omega
                            have hs5 : ¬ 9223372036854775807 < X.length + 2 + l1.length + 1 + l3.length + 1 := by omega
                            clear hR1 hR2 j1 j2 hsucc hbat hXl hll hbal d0 d1 d7
                            go_upto_region 27 with fail
                            go_wp2_with fail
                            refine HCT.out.mono ?_
                            rintro e w9 ⟨rfl, hb9⟩
                            obtain ⟨HB9⟩ : Nonempty (Hid (Below W.heap.size W w9)) := ⟨HW2.out.trans (hb9.mono HW2.out.size)⟩
                            obtain ⟨f0, f1⟩ := HDST.out _ hb9
                            obtain ⟨g0, g1, g2, g3⟩ := HX.out _ HB9.out
                            clear hb9 d2 d3 d4 d5 d6
                            by_cases hka : k = a
                            · have hka' : ((k : Int) == (a : Int)) = true := by rw [hka]; simp
                              obtain rfl : l3 = bb := by rw [HBT.out, if_pos hka]
                              clear hka
                              go_wp2_with fail
                              refine (HCP.out _ HB9.out).mono ?_
                              rintro e w10 ⟨rfl, hb10⟩
                              obtain ⟨HB10⟩ : Nonempty (Hid (Below W.heap.size W w10)) := ⟨HB9.out.trans (hb10.mono HB9.out.size)⟩
                              clear hb10
                              go_wp2_with fail
                              go_roundw
                              case rel => exact ⟨k + 1, by go_num, by omega, by rw [HXX.out]; simp [ByteArray.ext_iff, ByteArray.data_append], HB10⟩
                              case measure => simp [intOf]; omega
                            · have hka' : ((k : Int) == (a : Int)) = false := beq_eq_false_iff_ne.2 (by omega)
                              have hka2 : (k == a) = false := beq_eq_false_iff_ne.2 hka
                              obtain rfl : l3 = l2 := by rw [HBT.out, if_neg hka]
                              go_wp2_with fail
                              refine (HCP.out _ HB9.out).mono ?_
                              rintro e w10 ⟨rfl, hb10⟩
                              obtain ⟨HB10⟩ : Nonempty (Hid (Below W.heap.size W w10)) := ⟨HB9.out.trans (hb10.mono HB9.out.size)⟩
                              clear hb10
                              go_wp2_with fail
                              go_roundw
                              case rel => exact ⟨k + 1, by go_num, by omega, by rw [HXX.out]; simp [ByteArray.ext_iff, ByteArray.data_append], HB10⟩
                              case measure => simp [intOf]; omega
                          · obtain rfl : k = L.length := by omega
                            obtain ⟨T2, hT2⟩ : ∃ X, Hid (tA D L a bb L.length = X) := ⟨_, show _ = _ from rfl⟩
                            rw [show tA D L a bb L.length = T2 from hT2.out]
                            go_upto_region 31 with fail
                            clear y0 y1 y2 y3
                            have haL : a < L.length := HSZ.out.2.1
                            obtain ⟨D', hD'⟩ : ∃ X, Hid (insP L[a].dst D = X) := ⟨_, show _ = _ from rfl⟩
                            obtain ⟨L', hL'⟩ : ∃ X, Hid (L.eraseIdx a = X) := ⟨_, show _ = _ from rfl⟩
                            obtain ⟨HR2⟩ : Nonempty (Hid (RightM ⟨kNews, 0, D', L'⟩)) := ⟨by
                              have := lost_right HRT.out a HSZ.out.2.1 HSZ.out.1
                              have h0 : n = 0 := (headC_zero HRT.out.head).2.2.2 (.inr rfl)
                              rw [h0, show insP L[a].dst D = D' from hD'.out, show L.eraseIdx a = L' from hL'.out] at this
                              exact this⟩
                            obtain ⟨HLE⟩ : Nonempty (Hid (D'.length = D.length + 1 ∧ L'.length + 1 = L.length ∧ L[a].dst ∈ D')) := ⟨by
                              rw [← hD'.out, ← hL'.out]
                              refine ⟨insP_len _ _, ?_, (insP_mem _ _ _).2 (.inl rfl)⟩
                              have := HSZ.out.2.1
                              rw [List.length_eraseIdx, if_pos this]; omega⟩
                            obtain ⟨HGET⟩ : Nonempty (Hid (∀ k (h : k < L'.length), ∃ kk, ∃ (h2 : kk < L.length), kk = (if k < a then k else k + 1) ∧ L'[k] = L[kk])) := ⟨fun k h => by
                              have h3 := HLE.out.2.1
                              refine ⟨if k < a then k else k + 1, by split <;> omega, rfl, ?_⟩
                              subst hL'
                              rw [List.getElem_eraseIdx]
                              split <;> rename_i hka <;> simp [hka]⟩
                            obtain ⟨HRD2⟩ : Nonempty (Hid (Calls Tryz.prog 31 #[.string ⟨T2.toArray⟩] wr fun r w' => (∃ v, r = .returned (.tuple #[v, .nilIface]) ∧ IsMsg w' v ⟨kNews, 0, D', L'⟩) ∧ Below wr.heap.size wr w')) := ⟨by
                              have hrun := read_bad_right HRT.out a HSZ.out.2.1 bb HBB.out.1 HBB.out.2.1
                              have hlen2 := bad_len D L a HSZ.out.2.1 bb n
                              rw [← tA_all D L a bb HSZ.out.2.1 n, show tA D L a bb L.length = T2 from hT2.out, ← textM_flat] at hlen2
                              have h7 := HTL.out
                              rw [HKN.out.1] at h7
                              rw [h7.1] at hlen2
                              rw [show tA D L a bb L.length = T2 from hT2.out, show insP L[a].dst D = D' from hD'.out, show L.eraseIdx a = L' from hL'.out] at hrun
                              have := HBB.out.2.2
                              exact read_right T2 ⟨kNews, 0, D', L'⟩ true E m wr (HEV.out _ HW2.out) (by omega) hrun HR2.out⟩
                            have hw1 : IntKind.i64.wrap ((L.length : Int) - 1) = (L'.length : Int) := by have := HLE.out.2.1; rw [IntKind.wrap_i64]; omega
                            have hw2 : IntKind.i64.wrap ((D.length : Int) + 1) = (D'.length : Int) := by have := HLE.out.1; rw [IntKind.wrap_i64]; omega
                            go_wp2_with fail
                            refine HRD2.out.mono ?_
                            rintro e w9 ⟨⟨v9, rfl, hv9⟩, hb9⟩
                            obtain ⟨pd, cd, qa, ca, rfl, i1, i2⟩ := hv9
                            simp only at *
                            obtain ⟨W9, hW9⟩ : ∃ W, Hid (w9.alloc (.cells #[.string ⟨kNews.toArray⟩, .int .i64 0, .slice pd D'.length cd, .slice qa L'.length ca] 55) = W) := ⟨_, show _ = _ from rfl⟩
                            obtain ⟨N9, hN9⟩ : ∃ N, Hid (w9.heap.size = N) := ⟨_, show _ = _ from rfl⟩
                            obtain ⟨HB9⟩ : Nonempty (Hid (Below W.heap.size W W9 ∧ Pairs W9 pd D' ∧ Routes W9 qa L' ∧ W9.heap[N9]? = some (.cells #[.string ⟨kNews.toArray⟩, .int .i64 0, .slice pd D'.length cd, .slice qa L'.length ca] 55 (0, 0)))) := ⟨by
                              have h5 := HW2.out.trans (hb9.mono HW2.out.size)
                              rw [← hW9.out, ← hN9.out]
                              exact ⟨h5.trans ((below_alloc _ _).mono h5.size), i1.below (below_alloc _ _), i2.below (below_alloc _ _), Go.heap_alloc_new w9 _⟩⟩
                            obtain ⟨HY⟩ : Nonempty (Hid (∀ w', Below W9.heap.size W9 w' → (w'.cell? ⟨N, 2, none⟩ = some (.slice p D.length c) ∧ w'.cell? ⟨N, 3, none⟩ = some (.slice q L.length d)) ∧ (w'.cell? ⟨N9, 2, none⟩ = some (.slice pd D'.length cd) ∧ w'.cell? ⟨N9, 3, none⟩ = some (.slice qa L'.length ca)) ∧ Pairs w' pd D' ∧ Routes w' qa L' ∧ Routes w' q L ∧ Below W.heap.size W w')) := ⟨fun w' hb => by
                              have h6 := HB9.out.1.trans (hb.mono HB9.out.1.size)
                              obtain ⟨-, -, t2, t3⟩ := HX.out _ h6
                              obtain ⟨-, -, s2, s3⟩ := heap_cells4 HB9.out.2.2.2
                              exact ⟨⟨t2, t3⟩, ⟨cell_kept hb s2, cell_kept hb s3⟩, HB9.out.2.1.below hb, HB9.out.2.2.1.below hb, (HPQ.out _ h6).2, h6⟩⟩
                            obtain ⟨HY0⟩ : Nonempty (Hid (Below W9.heap.size W9 W9)) := ⟨Below.refl _ _⟩
                            clear hb9 i1 i2
                            go_upto_region 32 with fail
                            rw [show w9.alloc (.cells #[.string ⟨kNews.toArray⟩, .int .i64 0, .slice pd D'.length cd, .slice qa L'.length ca] 55) = W9 from hW9.out, show w9.heap.size = N9 from hN9.out]
                            obtain ⟨⟨t2, t3⟩, ⟨s2, s3⟩, -⟩ := HY.out _ HY0.out
                            go_upto_region 34 with fail
                            clear t2 t3 s2 s3 hw1 hw2
                            go_cut [20] from 24 (fun i w' => i = .int .i64 0 ∧ Hid (Below W9.heap.size W9 w'))
                            case first J3 K3 hJ3 hK3 =>
                              go_wp2_with fail
                              go_meet
                              exact ⟨rfl, HY0⟩
                            case rest =>
                              as_aux_lemma =>
                                obtain ⟨rfl, HC3⟩ := hcut
                                clear HW HW2 HC2 HRD2 hk hlt hk2 hlt2
                                go_wp2_with fail
                                go_loopw [20] (fun i wr => ∃ k : Nat, i = .int .i64 k ∧ k ≤ L'.length ∧ Hid (Below W9.heap.size W9 wr)) (fun i _ => L'.length - (intOf i).toNat)
                                case atStart => exact ⟨0, rfl, Nat.zero_le _, HC3⟩
                                case round =>
                                  obtain ⟨k, rfl, hk, HW⟩ := hrel
                                  by_cases hlt : k < L'.length
                                  · have q3 : (k : Int) < L'.length := by omega
                                    obtain ⟨⟨t2, t3⟩, ⟨s2, s3⟩, -, hR1, hR2, hbW⟩ := HY.out wr HW.out
                                    obtain ⟨kk, hkk, hke, heq⟩ := HGET.out k hlt
                                    have hll : L'.length ≤ 61 := by have := HLE.out.2.1; omega
                                    have q4 : (kk : Int) < L.length := by omega
                                    obtain ⟨b1, o1, rfl, p1, c1, p2, c2, a0, a1, a2, a3, a4, a5, a6, -, i1, i2⟩ := hR1 k hlt
                                    obtain ⟨b2, o2, rfl, q1, e1, q2, e2, f0, f1, f2, f3, f4, f5, f6, -, j1, j2⟩ := hR2 kk hkk
                                    rw [heq] at a0 a1 a2 a3 a4 a5 a6 i1 i2
                                    have m1 := HLF.out.2.2 L[kk] (List.getElem_mem hkk)
                                    obtain ⟨z0, hz0⟩ : ∃ l, Hid (L[kk].dst.1 = l) := ⟨_, show _ = _ from rfl⟩
                                    obtain ⟨z1, hz1⟩ : ∃ l, Hid (L[kk].dst.2 = l) := ⟨_, show _ = _ from rfl⟩
                                    obtain ⟨A2, hA2⟩ : ∃ l, Hid (L[kk].att = l) := ⟨_, show _ = _ from rfl⟩
                                    rw [show L[kk].dst.1 = z0 from hz0.out] at a0 f0
                                    rw [show L[kk].dst.2 = z1 from hz1.out] at a1 f1
                                    rw [show L[kk].att = A2 from hA2.out] at a2 a3 a4 a5 a6 i1 i2 f2 f3 f4 f5 f6 j1 j2 m1
                                    obtain ⟨HC⟩ : Nonempty (Hid (∀ w', Below wr.heap.size wr w' → Calls Tryz.prog 11 #[.agg #[.slice p1 A2.path.length c1, .int .i64 A2.pref, .int .i64 A2.med, .int .i64 A2.org, .slice p2 A2.tags.length c2], .agg #[.slice q1 A2.path.length e1, .int .i64 A2.pref, .int .i64 A2.med, .int .i64 A2.org, .slice q2 A2.tags.length e2]] w' fun r w'' => r = .returned (.bool true) ∧ Below w'.heap.size w' w'')) := ⟨fun w' hb => by
                                      have := same_any (.agg #[.slice p1 A2.path.length c1, .int .i64 A2.pref, .int .i64 A2.med, .int .i64 A2.org, .slice p2 A2.tags.length c2]) (.agg #[.slice q1 A2.path.length e1, .int .i64 A2.pref, .int .i64 A2.med, .int .i64 A2.org, .slice q2 A2.tags.length e2]) A2 A2 w' ⟨p1, c1, p2, c2, rfl, i1.below hb, i2.below hb⟩ ⟨q1, e1, q2, e2, rfl, j1.below hb, j2.below hb⟩ m1.1 m1.2 m1.1 m1.2
                                      rwa [decide_eq_true rfl] at this⟩
                                    obtain ⟨HKC⟩ : Nonempty (Hid (∀ w', Below wr.heap.size wr w' → (fun w' : World => (w'.cell? ⟨b1, o1 + k * 8, none⟩ = some (.int .i64 z0) ∧ w'.cell? ⟨b1, o1 + k * 8 + 1, none⟩ = some (.int .i64 z1) ∧ w'.cell? ⟨b1, o1 + k * 8 + 2, none⟩ = some (.slice p1 A2.path.length c1) ∧ w'.cell? ⟨b1, o1 + k * 8 + 3, none⟩ = some (.int .i64 A2.pref) ∧ w'.cell? ⟨b1, o1 + k * 8 + 4, none⟩ = some (.int .i64 A2.med) ∧ w'.cell? ⟨b1, o1 + k * 8 + 5, none⟩ = some (.int .i64 A2.org) ∧ w'.cell? ⟨b1, o1 + k * 8 + 6, none⟩ = some (.slice p2 A2.tags.length c2)) ∧ (w'.cell? ⟨b2, o2 + kk * 8, none⟩ = some (.int .i64 z0) ∧ w'.cell? ⟨b2, o2 + kk * 8 + 1, none⟩ = some (.int .i64 z1) ∧ w'.cell? ⟨b2, o2 + kk * 8 + 2, none⟩ = some (.slice q1 A2.path.length e1) ∧ w'.cell? ⟨b2, o2 + kk * 8 + 3, none⟩ = some (.int .i64 A2.pref) ∧ w'.cell? ⟨b2, o2 + kk * 8 + 4, none⟩ = some (.int .i64 A2.med) ∧ w'.cell? ⟨b2, o2 + kk * 8 + 5, none⟩ = some (.int .i64 A2.org) ∧ w'.cell? ⟨b2, o2 + kk * 8 + 6, none⟩ = some (.slice q2 A2.tags.length e2)) ∧ w'.cell? ⟨N, 3, none⟩ = some (.slice (some ⟨b2, o2, none⟩) L.length d) ∧ w'.cell? ⟨N9, 3, none⟩ = some (.slice (some ⟨b1, o1, none⟩) L'.length ca)) w')) := ⟨fun w' hb => ⟨⟨cell_kept hb a0, cell_kept hb a1, cell_kept hb a2, cell_kept hb a3, cell_kept hb a4, cell_kept hb a5, cell_kept hb a6⟩, ⟨cell_kept hb f0, cell_kept hb f1, cell_kept hb f2, cell_kept hb f3, cell_kept hb f4, cell_kept hb f5, cell_kept hb f6⟩, cell_kept hb t3, cell_kept hb s3⟩⟩
                                    clear a0 a1 a2 a3 a4 a5 a6 f0 f1 f2 f3 f4 f5 f6 i1 i2 j1 j2 m1 hR1 hR2 heq t2 s2 hbW hz0 hz1 hA2
                                    by_cases hka : k < a
                                    · have hka' : decide (a ≤ k) = false := decide_eq_false (by omega)
                                      have hka2 : ¬ a ≤ k := by omega
                                      obtain rfl : k = kk := Eq.symm <| by rw [hke, if_pos hka]
                                      clear hke hka
                                      go_upto_region 40 with fail
                                      refine wp_region_held_drew (S := (fun w' : World => (w'.cell? ⟨b1, o1 + k * 8, none⟩ = some (.int .i64 z0) ∧ w'.cell? ⟨b1, o1 + k * 8 + 1, none⟩ = some (.int .i64 z1) ∧ w'.cell? ⟨b1, o1 + k * 8 + 2, none⟩ = some (.slice p1 A2.path.length c1) ∧ w'.cell? ⟨b1, o1 + k * 8 + 3, none⟩ = some (.int .i64 A2.pref) ∧ w'.cell? ⟨b1, o1 + k * 8 + 4, none⟩ = some (.int .i64 A2.med) ∧ w'.cell? ⟨b1, o1 + k * 8 + 5, none⟩ = some (.int .i64 A2.org) ∧ w'.cell? ⟨b1, o1 + k * 8 + 6, none⟩ = some (.slice p2 A2.tags.length c2)) ∧ (w'.cell? ⟨b2, o2 + k * 8, none⟩ = some (.int .i64 z0) ∧ w'.cell? ⟨b2, o2 + k * 8 + 1, none⟩ = some (.int .i64 z1) ∧ w'.cell? ⟨b2, o2 + k * 8 + 2, none⟩ = some (.slice q1 A2.path.length e1) ∧ w'.cell? ⟨b2, o2 + k * 8 + 3, none⟩ = some (.int .i64 A2.pref) ∧ w'.cell? ⟨b2, o2 + k * 8 + 4, none⟩ = some (.int .i64 A2.med) ∧ w'.cell? ⟨b2, o2 + k * 8 + 5, none⟩ = some (.int .i64 A2.org) ∧ w'.cell? ⟨b2, o2 + k * 8 + 6, none⟩ = some (.slice q2 A2.tags.length e2)) ∧ w'.cell? ⟨N, 3, none⟩ = some (.slice (some ⟨b2, o2, none⟩) L.length d) ∧ w'.cell? ⟨N9, 3, none⟩ = some (.slice (some ⟨b1, o1, none⟩) L'.length ca))) (by kernel_rfl) ?_ (fun hHeld => ?_)
                                      · exact HKC.out _ (Below.refl _ _).drew
                                      refine wpAnyH_take (i := 0) (v := ?_) rfl (by kernel_rfl) (by kernel_rfl) (by kernel_rfl) (fun _ _ _ h => h) (Or.inl ⟨by rfl, ?_⟩) (by assumption) ?_
                                      rotate_left
                                      · (intro w hSw; (try dsimp only at hSw); go_simp; try (with_reducible rfl))
                                      try simp only [Act.put, List.setIfInBounds_toArray, List.set_cons_zero, List.set_cons_succ, List.getElem_toArray, List.getElem_cons_zero, List.getElem_cons_succ]
                                      refine wpAnyH_take (i := 1) (v := ?_) rfl (by kernel_rfl) (by kernel_rfl) (by kernel_rfl) (fun _ _ _ h => h) (Or.inl ⟨by rfl, ?_⟩) (by assumption) ?_
                                      rotate_left
                                      · (intro w hSw; (try dsimp only at hSw); go_simp; try (with_reducible rfl))
                                      try simp only [Act.put, List.setIfInBounds_toArray, List.set_cons_zero, List.set_cons_succ, List.getElem_toArray, List.getElem_cons_zero, List.getElem_cons_succ]
                                      refine wpAnyH_take (i := 2) (v := ?_) rfl (by kernel_rfl) (by kernel_rfl) (by kernel_rfl) (fun _ _ _ h => h) (Or.inl ⟨by rfl, ?_⟩) (by assumption) ?_
                                      rotate_left
                                      · (intro w hSw; (try dsimp only at hSw); go_simp; try (with_reducible rfl))
                                      try simp only [Act.put, List.setIfInBounds_toArray, List.set_cons_zero, List.set_cons_succ, List.getElem_toArray, List.getElem_cons_zero, List.getElem_cons_succ]
                                      refine wpAnyH_take (i := 3) (v := ?_) rfl (by kernel_rfl) (by kernel_rfl) (by kernel_rfl) (fun _ _ _ h => h) (Or.inl ⟨by rfl, ?_⟩) (by assumption) ?_
                                      rotate_left
                                      · (intro w hSw; (try dsimp only at hSw); go_simp; try (with_reducible rfl))
                                      try simp only [Act.put, List.setIfInBounds_toArray, List.set_cons_zero, List.set_cons_succ, List.getElem_toArray, List.getElem_cons_zero, List.getElem_cons_succ]
                                      refine wpAnyH_take (i := 4) (v := ?_) rfl (by kernel_rfl) (by kernel_rfl) (by kernel_rfl) (fun _ _ _ h => h) (Or.inl ⟨by rfl, ?_⟩) (by assumption) ?_
                                      rotate_left
                                      · (intro w hSw; (try dsimp only at hSw); go_simp; try (with_reducible rfl))
                                      try simp only [Act.put, List.setIfInBounds_toArray, List.set_cons_zero, List.set_cons_succ, List.getElem_toArray, List.getElem_cons_zero, List.getElem_cons_succ]
                                      refine wpAnyH_take (i := 5) (v := ?_) rfl (by kernel_rfl) (by kernel_rfl) (by kernel_rfl) (fun _ _ _ h => h) (Or.inl ⟨by rfl, ?_⟩) (by assumption) ?_
                                      rotate_left
                                      · (intro w hSw; (try dsimp only at hSw); go_simp; try (with_reducible rfl))
                                      try simp only [Act.put, List.setIfInBounds_toArray, List.set_cons_zero, List.set_cons_succ, List.getElem_toArray, List.getElem_cons_zero, List.getElem_cons_succ]
                                      refine wpAnyH_take (i := 6) (v := ?_) rfl (by kernel_rfl) (by kernel_rfl) (by kernel_rfl) (fun _ _ _ h => h) (Or.inl ⟨by rfl, ?_⟩) (by assumption) ?_
                                      rotate_left
                                      · (intro w hSw; (try dsimp only at hSw); go_simp; try (with_reducible rfl))
                                      try simp only [Act.put, List.setIfInBounds_toArray, List.set_cons_zero, List.set_cons_succ, List.getElem_toArray, List.getElem_cons_zero, List.getElem_cons_succ]
                                      refine wpAnyH_take (i := 7) (v := ?_) rfl (by kernel_rfl) (by kernel_rfl) (by kernel_rfl) (fun _ _ _ h => h) (Or.inl ⟨by rfl, ?_⟩) (by assumption) ?_
                                      rotate_left
                                      · (intro w hSw; (try dsimp only at hSw); go_simp; try (with_reducible rfl))
                                      try simp only [Act.put, List.setIfInBounds_toArray, List.set_cons_zero, List.set_cons_succ, List.getElem_toArray, List.getElem_cons_zero, List.getElem_cons_succ]
                                      refine wpAnyH_take (i := 8) (v := ?_) rfl (by kernel_rfl) (by kernel_rfl) (by kernel_rfl) (fun _ _ _ h => h) (Or.inl ⟨by rfl, ?_⟩) (by assumption) ?_
                                      rotate_left
                                      · (intro w hSw; (try dsimp only at hSw); go_simp; try (with_reducible rfl))
                                      try simp only [Act.put, List.setIfInBounds_toArray, List.set_cons_zero, List.set_cons_succ, List.getElem_toArray, List.getElem_cons_zero, List.getElem_cons_succ]
                                      refine wpAnyH_take (i := 9) (v := ?_) rfl (by kernel_rfl) (by kernel_rfl) (by kernel_rfl) (fun _ _ _ h => h) (Or.inl ⟨by rfl, ?_⟩) (by assumption) ?_
                                      rotate_left
                                      · (intro w hSw; (try dsimp only at hSw); go_simp; try (with_reducible rfl))
                                      try simp only [Act.put, List.setIfInBounds_toArray, List.set_cons_zero, List.set_cons_succ, List.getElem_toArray, List.getElem_cons_zero, List.getElem_cons_succ]
                                      refine wpAnyH_take (i := 10) (v := ?_) rfl (by kernel_rfl) (by kernel_rfl) (by kernel_rfl) (fun _ _ _ h => h) (Or.inl ⟨by rfl, ?_⟩) (by assumption) ?_
                                      rotate_left
                                      · (intro w hSw; (try dsimp only at hSw); go_simp; try (with_reducible rfl))
                                      try simp only [Act.put, List.setIfInBounds_toArray, List.set_cons_zero, List.set_cons_succ, List.getElem_toArray, List.getElem_cons_zero, List.getElem_cons_succ]
                                      refine wpAnyH_take (i := 11) (v := ?_) rfl (by kernel_rfl) (by kernel_rfl) (by kernel_rfl) (fun _ _ _ h => h) (Or.inl ⟨by rfl, ?_⟩) (by assumption) ?_
                                      rotate_left
                                      · (intro w hSw; (try dsimp only at hSw); go_simp; try (with_reducible rfl))
                                      try simp only [Act.put, List.setIfInBounds_toArray, List.set_cons_zero, List.set_cons_succ, List.getElem_toArray, List.getElem_cons_zero, List.getElem_cons_succ]
                                      refine wpAnyH_take (i := 12) (v := ?_) rfl (by kernel_rfl) (by kernel_rfl) (by kernel_rfl) (fun _ _ _ h => h) (Or.inl ⟨by rfl, ?_⟩) (by assumption) ?_
                                      rotate_left
                                      · (intro w hSw; (try dsimp only at hSw); go_simp; try (with_reducible rfl))
                                      try simp only [Act.put, List.setIfInBounds_toArray, List.set_cons_zero, List.set_cons_succ, List.getElem_toArray, List.getElem_cons_zero, List.getElem_cons_succ]
                                      refine wpAnyH_take (i := 13) (v := ?_) rfl (by kernel_rfl) (by kernel_rfl) (by kernel_rfl) (fun _ _ _ h => h) (Or.inl ⟨by rfl, ?_⟩) (by assumption) ?_
                                      rotate_left
                                      · (intro w hSw; (try dsimp only at hSw); go_simp; try (with_reducible rfl))
                                      try simp only [Act.put, List.setIfInBounds_toArray, List.set_cons_zero, List.set_cons_succ, List.getElem_toArray, List.getElem_cons_zero, List.getElem_cons_succ]
                                      refine wpAnyH_take (i := 14) (v := ?_) rfl (by kernel_rfl) (by kernel_rfl) (by kernel_rfl) (fun _ _ _ h => h) (Or.inl ⟨by rfl, ?_⟩) (by assumption) ?_
                                      rotate_left
                                      · (intro w hSw; (try dsimp only at hSw); go_simp; try (with_reducible rfl))
                                      try simp only [Act.put, List.setIfInBounds_toArray, List.set_cons_zero, List.set_cons_succ, List.getElem_toArray, List.getElem_cons_zero, List.getElem_cons_succ]
                                      refine wpAnyH_take (i := 15) (v := ?_) rfl (by kernel_rfl) (by kernel_rfl) (by kernel_rfl) (fun _ _ _ h => h) (Or.inl ⟨by rfl, ?_⟩) (by assumption) ?_
                                      rotate_left
                                      · (intro w hSw; (try dsimp only at hSw); go_simp; try (with_reducible rfl))
                                      try simp only [Act.put, List.setIfInBounds_toArray, List.set_cons_zero, List.set_cons_succ, List.getElem_toArray, List.getElem_cons_zero, List.getElem_cons_succ]
                                      refine wpAnyH_take (i := 16) (v := ?_) rfl (by kernel_rfl) (by kernel_rfl) (by kernel_rfl) (fun _ _ _ h => h) (Or.inl ⟨by rfl, ?_⟩) (by assumption) ?_
                                      rotate_left
                                      · (intro w hSw; (try dsimp only at hSw); go_simp; try (with_reducible rfl))
                                      try simp only [Act.put, List.setIfInBounds_toArray, List.set_cons_zero, List.set_cons_succ, List.getElem_toArray, List.getElem_cons_zero, List.getElem_cons_succ]
                                      refine wpAnyH_take (i := 17) (v := ?_) rfl (by kernel_rfl) (by kernel_rfl) (by kernel_rfl) (fun _ _ _ h => h) (Or.inl ⟨by rfl, ?_⟩) (by assumption) ?_
                                      rotate_left
                                      · (intro w hSw; (try dsimp only at hSw); go_simp; try (with_reducible rfl))
                                      try simp only [Act.put, List.setIfInBounds_toArray, List.set_cons_zero, List.set_cons_succ, List.getElem_toArray, List.getElem_cons_zero, List.getElem_cons_succ]
                                      refine wpAnyH_take (i := 18) (v := ?_) rfl (by kernel_rfl) (by kernel_rfl) (by kernel_rfl) (fun _ _ _ h => h) (Or.inl ⟨by rfl, ?_⟩) (by assumption) ?_
                                      rotate_left
                                      · (intro w hSw; (try dsimp only at hSw); go_simp; try (with_reducible rfl))
                                      try simp only [Act.put, List.setIfInBounds_toArray, List.set_cons_zero, List.set_cons_succ, List.getElem_toArray, List.getElem_cons_zero, List.getElem_cons_succ]
                                      refine wpAnyH_take (i := 19) (v := ?_) rfl (by kernel_rfl) (by kernel_rfl) (by kernel_rfl) (fun _ _ _ h => h) (Or.inl ⟨by rfl, ?_⟩) (by assumption) ?_
                                      rotate_left
                                      · (intro w hSw; (try dsimp only at hSw); go_simp; try (with_reducible rfl))
                                      try simp only [Act.put, List.setIfInBounds_toArray, List.set_cons_zero, List.set_cons_succ, List.getElem_toArray, List.getElem_cons_zero, List.getElem_cons_succ]
                                      refine wpAnyH_take (i := 20) (v := ?_) rfl (by kernel_rfl) (by kernel_rfl) (by kernel_rfl) (fun _ _ _ h => h) (Or.inl ⟨by rfl, ?_⟩) (by assumption) ?_
                                      rotate_left
                                      · (intro w hSw; (try dsimp only at hSw); go_simp; try (with_reducible rfl))
                                      try simp only [Act.put, List.setIfInBounds_toArray, List.set_cons_zero, List.set_cons_succ, List.getElem_toArray, List.getElem_cons_zero, List.getElem_cons_succ]
                                      refine wpAnyH_take (i := 21) (v := ?_) rfl (by kernel_rfl) (by kernel_rfl) (by kernel_rfl) (fun _ _ _ h => h) (Or.inl ⟨by rfl, ?_⟩) (by assumption) ?_
                                      rotate_left
                                      · (intro w hSw; (try dsimp only at hSw); go_simp; try (with_reducible rfl))
                                      try simp only [Act.put, List.setIfInBounds_toArray, List.set_cons_zero, List.set_cons_succ, List.getElem_toArray, List.getElem_cons_zero, List.getElem_cons_succ]
                                      refine wpAnyH_take (i := 22) (v := ?_) rfl (by kernel_rfl) (by kernel_rfl) (by kernel_rfl) (fun _ _ _ h => h) (Or.inl ⟨by rfl, ?_⟩) (by assumption) ?_
                                      rotate_left
                                      · (intro w hSw; (try dsimp only at hSw); go_simp; try (with_reducible rfl))
                                      try simp only [Act.put, List.setIfInBounds_toArray, List.set_cons_zero, List.set_cons_succ, List.getElem_toArray, List.getElem_cons_zero, List.getElem_cons_succ]
                                      refine wpAnyH_take (i := 23) (v := ?_) rfl (by kernel_rfl) (by kernel_rfl) (by kernel_rfl) (fun _ _ _ h => h) (Or.inl ⟨by rfl, ?_⟩) (by assumption) ?_
                                      rotate_left
                                      · (intro w hSw; (try dsimp only at hSw); go_simp; try (with_reducible rfl))
                                      try simp only [Act.put, List.setIfInBounds_toArray, List.set_cons_zero, List.set_cons_succ, List.getElem_toArray, List.getElem_cons_zero, List.getElem_cons_succ]
                                      refine wpAnyH_take (i := 24) (v := ?_) rfl (by kernel_rfl) (by kernel_rfl) (by kernel_rfl) (fun _ _ _ h => h) (Or.inl ⟨by rfl, ?_⟩) (by assumption) ?_
                                      rotate_left
                                      · (intro w hSw; (try dsimp only at hSw); go_simp; try (with_reducible rfl))
                                      try simp only [Act.put, List.setIfInBounds_toArray, List.set_cons_zero, List.set_cons_succ, List.getElem_toArray, List.getElem_cons_zero, List.getElem_cons_succ]
                                      refine wpAnyH_take (i := 25) (v := ?_) rfl (by kernel_rfl) (by kernel_rfl) (by kernel_rfl) (fun _ _ _ h => h) (Or.inl ⟨by rfl, ?_⟩) (by assumption) ?_
                                      rotate_left
                                      · (intro w hSw; (try dsimp only at hSw); go_simp; try (with_reducible rfl))
                                      try simp only [Act.put, List.setIfInBounds_toArray, List.set_cons_zero, List.set_cons_succ, List.getElem_toArray, List.getElem_cons_zero, List.getElem_cons_succ]
                                      refine wpAnyH_ready (rs := [26]) (by kernel_rfl) (by simp) ?_
                                      refine AllReadyH.cons rfl (fun K hK => ?_) AllReadyH.nil
                                      go_simp
                                      refine (HC.out _ (Below.refl _ _).drew).mono ?_
                                      rintro e w10 ⟨rfl, hb10⟩
                                      obtain ⟨HB10⟩ : Nonempty (Hid (Below wr.heap.size wr w10)) := ⟨(Below.refl _ _).drew.trans hb10⟩
                                      have hKeep := HKC.out _ HB10.out
                                      clear hb10 hHeld
                                      refine hK.out _ _ ?_ (fun hHeld => ?_)
                                      · exact hKeep
                                      clear hK K hKeep
                                      try simp only [Act.put, List.setIfInBounds_toArray, List.set_cons_zero, List.set_cons_succ, List.getElem_toArray, List.getElem_cons_zero, List.getElem_cons_succ]
                                      refine wpAnyH_take (i := 27) (v := ?_) rfl (by kernel_rfl) (by kernel_rfl) (by kernel_rfl) (fun _ _ _ h => h) (Or.inl ⟨by rfl, ?_⟩) (by assumption) ?_
                                      rotate_left
                                      · (intro w hSw; (try dsimp only at hSw); go_simp; try (with_reducible rfl))
                                      try simp only [Act.put, List.setIfInBounds_toArray, List.set_cons_zero, List.set_cons_succ, List.getElem_toArray, List.getElem_cons_zero, List.getElem_cons_succ]
                                      refine wpAnyH_take (i := 28) (v := ?_) rfl (by kernel_rfl) (by kernel_rfl) (by kernel_rfl) (fun _ _ _ h => h) (Or.inl ⟨by rfl, ?_⟩) (by assumption) ?_
                                      rotate_left
                                      · (intro w hSw; (try dsimp only at hSw); go_simp; try (with_reducible rfl))
                                      try simp only [Act.put, List.setIfInBounds_toArray, List.set_cons_zero, List.set_cons_succ, List.getElem_toArray, List.getElem_cons_zero, List.getElem_cons_succ]
                                      refine wpAnyH_done (by kernel_rfl) ?_ _
                                      clear hHeld
                                      obtain ⟨HBX⟩ : Nonempty (Hid (Below W9.heap.size W9 w10)) := ⟨HW.out.trans (HB10.out.mono HW.out.size)⟩
                                      go_wp2_with fail
                                      go_roundw
                                      case rel => first | exact ⟨k + 1, by go_num, by omega, HBX⟩ | ((repeat apply Exists.intro); exact ⟨⟨k + 1, by go_num, by omega, HBX⟩, rfl⟩)
                                      case measure => simp [intOf]; omega
                                    · have hka' : decide (a ≤ k) = true := decide_eq_true (by omega)
                                      have hka2 : a ≤ k := by omega
                                      obtain ⟨HKE⟩ : Nonempty (Hid (kk = k + 1)) := ⟨by show _ = _; rw [hke, if_neg hka]⟩
                                      have hwk : IntKind.i64.wrap ((k : Int) + 1) = (kk : Int) := by have := HKE.out; rw [IntKind.wrap_i64]; omega
                                      clear hke hka
                                      go_upto_region 40 with fail
                                      refine wp_region_held_drew (S := (fun w' : World => (w'.cell? ⟨b1, o1 + k * 8, none⟩ = some (.int .i64 z0) ∧ w'.cell? ⟨b1, o1 + k * 8 + 1, none⟩ = some (.int .i64 z1) ∧ w'.cell? ⟨b1, o1 + k * 8 + 2, none⟩ = some (.slice p1 A2.path.length c1) ∧ w'.cell? ⟨b1, o1 + k * 8 + 3, none⟩ = some (.int .i64 A2.pref) ∧ w'.cell? ⟨b1, o1 + k * 8 + 4, none⟩ = some (.int .i64 A2.med) ∧ w'.cell? ⟨b1, o1 + k * 8 + 5, none⟩ = some (.int .i64 A2.org) ∧ w'.cell? ⟨b1, o1 + k * 8 + 6, none⟩ = some (.slice p2 A2.tags.length c2)) ∧ (w'.cell? ⟨b2, o2 + kk * 8, none⟩ = some (.int .i64 z0) ∧ w'.cell? ⟨b2, o2 + kk * 8 + 1, none⟩ = some (.int .i64 z1) ∧ w'.cell? ⟨b2, o2 + kk * 8 + 2, none⟩ = some (.slice q1 A2.path.length e1) ∧ w'.cell? ⟨b2, o2 + kk * 8 + 3, none⟩ = some (.int .i64 A2.pref) ∧ w'.cell? ⟨b2, o2 + kk * 8 + 4, none⟩ = some (.int .i64 A2.med) ∧ w'.cell? ⟨b2, o2 + kk * 8 + 5, none⟩ = some (.int .i64 A2.org) ∧ w'.cell? ⟨b2, o2 + kk * 8 + 6, none⟩ = some (.slice q2 A2.tags.length e2)) ∧ w'.cell? ⟨N, 3, none⟩ = some (.slice (some ⟨b2, o2, none⟩) L.length d) ∧ w'.cell? ⟨N9, 3, none⟩ = some (.slice (some ⟨b1, o1, none⟩) L'.length ca))) (by kernel_rfl) ?_ (fun hHeld => ?_)
                                      · exact HKC.out _ (Below.refl _ _).drew
                                      refine wpAnyH_take (i := 0) (v := ?_) rfl (by kernel_rfl) (by kernel_rfl) (by kernel_rfl) (fun _ _ _ h => h) (Or.inl ⟨by rfl, ?_⟩) (by assumption) ?_
                                      rotate_left
                                      · (intro w hSw; (try dsimp only at hSw); go_simp; try (with_reducible rfl))
                                      try simp only [Act.put, List.setIfInBounds_toArray, List.set_cons_zero, List.set_cons_succ, List.getElem_toArray, List.getElem_cons_zero, List.getElem_cons_succ]
                                      refine wpAnyH_take (i := 1) (v := ?_) rfl (by kernel_rfl) (by kernel_rfl) (by kernel_rfl) (fun _ _ _ h => h) (Or.inl ⟨by rfl, ?_⟩) (by assumption) ?_
                                      rotate_left
                                      · (intro w hSw; (try dsimp only at hSw); go_simp; try (with_reducible rfl))
                                      try simp only [Act.put, List.setIfInBounds_toArray, List.set_cons_zero, List.set_cons_succ, List.getElem_toArray, List.getElem_cons_zero, List.getElem_cons_succ]
                                      refine wpAnyH_take (i := 2) (v := ?_) rfl (by kernel_rfl) (by kernel_rfl) (by kernel_rfl) (fun _ _ _ h => h) (Or.inl ⟨by rfl, ?_⟩) (by assumption) ?_
                                      rotate_left
                                      · (intro w hSw; (try dsimp only at hSw); go_simp; try (with_reducible rfl))
                                      try simp only [Act.put, List.setIfInBounds_toArray, List.set_cons_zero, List.set_cons_succ, List.getElem_toArray, List.getElem_cons_zero, List.getElem_cons_succ]
                                      refine wpAnyH_take (i := 3) (v := ?_) rfl (by kernel_rfl) (by kernel_rfl) (by kernel_rfl) (fun _ _ _ h => h) (Or.inl ⟨by rfl, ?_⟩) (by assumption) ?_
                                      rotate_left
                                      · (intro w hSw; (try dsimp only at hSw); go_simp; try (with_reducible rfl))
                                      try simp only [Act.put, List.setIfInBounds_toArray, List.set_cons_zero, List.set_cons_succ, List.getElem_toArray, List.getElem_cons_zero, List.getElem_cons_succ]
                                      refine wpAnyH_take (i := 4) (v := ?_) rfl (by kernel_rfl) (by kernel_rfl) (by kernel_rfl) (fun _ _ _ h => h) (Or.inl ⟨by rfl, ?_⟩) (by assumption) ?_
                                      rotate_left
                                      · (intro w hSw; (try dsimp only at hSw); go_simp; try (with_reducible rfl))
                                      try simp only [Act.put, List.setIfInBounds_toArray, List.set_cons_zero, List.set_cons_succ, List.getElem_toArray, List.getElem_cons_zero, List.getElem_cons_succ]
                                      refine wpAnyH_take (i := 5) (v := ?_) rfl (by kernel_rfl) (by kernel_rfl) (by kernel_rfl) (fun _ _ _ h => h) (Or.inl ⟨by rfl, ?_⟩) (by assumption) ?_
                                      rotate_left
                                      · (intro w hSw; (try dsimp only at hSw); go_simp; try (with_reducible rfl))
                                      try simp only [Act.put, List.setIfInBounds_toArray, List.set_cons_zero, List.set_cons_succ, List.getElem_toArray, List.getElem_cons_zero, List.getElem_cons_succ]
                                      refine wpAnyH_take (i := 6) (v := ?_) rfl (by kernel_rfl) (by kernel_rfl) (by kernel_rfl) (fun _ _ _ h => h) (Or.inl ⟨by rfl, ?_⟩) (by assumption) ?_
                                      rotate_left
                                      · (intro w hSw; (try dsimp only at hSw); go_simp; try (with_reducible rfl))
                                      try simp only [Act.put, List.setIfInBounds_toArray, List.set_cons_zero, List.set_cons_succ, List.getElem_toArray, List.getElem_cons_zero, List.getElem_cons_succ]
                                      refine wpAnyH_take (i := 7) (v := ?_) rfl (by kernel_rfl) (by kernel_rfl) (by kernel_rfl) (fun _ _ _ h => h) (Or.inl ⟨by rfl, ?_⟩) (by assumption) ?_
                                      rotate_left
                                      · (intro w hSw; (try dsimp only at hSw); go_simp; try (with_reducible rfl))
                                      try simp only [Act.put, List.setIfInBounds_toArray, List.set_cons_zero, List.set_cons_succ, List.getElem_toArray, List.getElem_cons_zero, List.getElem_cons_succ]
                                      refine wpAnyH_take (i := 8) (v := ?_) rfl (by kernel_rfl) (by kernel_rfl) (by kernel_rfl) (fun _ _ _ h => h) (Or.inl ⟨by rfl, ?_⟩) (by assumption) ?_
                                      rotate_left
                                      · (intro w hSw; (try dsimp only at hSw); go_simp; try (with_reducible rfl))
                                      try simp only [Act.put, List.setIfInBounds_toArray, List.set_cons_zero, List.set_cons_succ, List.getElem_toArray, List.getElem_cons_zero, List.getElem_cons_succ]
                                      refine wpAnyH_take (i := 9) (v := ?_) rfl (by kernel_rfl) (by kernel_rfl) (by kernel_rfl) (fun _ _ _ h => h) (Or.inl ⟨by rfl, ?_⟩) (by assumption) ?_
                                      rotate_left
                                      · (intro w hSw; (try dsimp only at hSw); go_simp; try (with_reducible rfl))
                                      try simp only [Act.put, List.setIfInBounds_toArray, List.set_cons_zero, List.set_cons_succ, List.getElem_toArray, List.getElem_cons_zero, List.getElem_cons_succ]
                                      refine wpAnyH_take (i := 10) (v := ?_) rfl (by kernel_rfl) (by kernel_rfl) (by kernel_rfl) (fun _ _ _ h => h) (Or.inl ⟨by rfl, ?_⟩) (by assumption) ?_
                                      rotate_left
                                      · (intro w hSw; (try dsimp only at hSw); go_simp; try (with_reducible rfl))
                                      try simp only [Act.put, List.setIfInBounds_toArray, List.set_cons_zero, List.set_cons_succ, List.getElem_toArray, List.getElem_cons_zero, List.getElem_cons_succ]
                                      refine wpAnyH_take (i := 11) (v := ?_) rfl (by kernel_rfl) (by kernel_rfl) (by kernel_rfl) (fun _ _ _ h => h) (Or.inl ⟨by rfl, ?_⟩) (by assumption) ?_
                                      rotate_left
                                      · (intro w hSw; (try dsimp only at hSw); go_simp; try (with_reducible rfl))
                                      try simp only [Act.put, List.setIfInBounds_toArray, List.set_cons_zero, List.set_cons_succ, List.getElem_toArray, List.getElem_cons_zero, List.getElem_cons_succ]
                                      refine wpAnyH_take (i := 12) (v := ?_) rfl (by kernel_rfl) (by kernel_rfl) (by kernel_rfl) (fun _ _ _ h => h) (Or.inl ⟨by rfl, ?_⟩) (by assumption) ?_
                                      rotate_left
                                      · (intro w hSw; (try dsimp only at hSw); go_simp; try (with_reducible rfl))
                                      try simp only [Act.put, List.setIfInBounds_toArray, List.set_cons_zero, List.set_cons_succ, List.getElem_toArray, List.getElem_cons_zero, List.getElem_cons_succ]
                                      refine wpAnyH_take (i := 13) (v := ?_) rfl (by kernel_rfl) (by kernel_rfl) (by kernel_rfl) (fun _ _ _ h => h) (Or.inl ⟨by rfl, ?_⟩) (by assumption) ?_
                                      rotate_left
                                      · (intro w hSw; (try dsimp only at hSw); go_simp; try (with_reducible rfl))
                                      try simp only [Act.put, List.setIfInBounds_toArray, List.set_cons_zero, List.set_cons_succ, List.getElem_toArray, List.getElem_cons_zero, List.getElem_cons_succ]
                                      refine wpAnyH_take (i := 14) (v := ?_) rfl (by kernel_rfl) (by kernel_rfl) (by kernel_rfl) (fun _ _ _ h => h) (Or.inl ⟨by rfl, ?_⟩) (by assumption) ?_
                                      rotate_left
                                      · (intro w hSw; (try dsimp only at hSw); go_simp; try (with_reducible rfl))
                                      try simp only [Act.put, List.setIfInBounds_toArray, List.set_cons_zero, List.set_cons_succ, List.getElem_toArray, List.getElem_cons_zero, List.getElem_cons_succ]
                                      refine wpAnyH_take (i := 15) (v := ?_) rfl (by kernel_rfl) (by kernel_rfl) (by kernel_rfl) (fun _ _ _ h => h) (Or.inl ⟨by rfl, ?_⟩) (by assumption) ?_
                                      rotate_left
                                      · (intro w hSw; (try dsimp only at hSw); go_simp; try (with_reducible rfl))
                                      try simp only [Act.put, List.setIfInBounds_toArray, List.set_cons_zero, List.set_cons_succ, List.getElem_toArray, List.getElem_cons_zero, List.getElem_cons_succ]
                                      refine wpAnyH_take (i := 16) (v := ?_) rfl (by kernel_rfl) (by kernel_rfl) (by kernel_rfl) (fun _ _ _ h => h) (Or.inl ⟨by rfl, ?_⟩) (by assumption) ?_
                                      rotate_left
                                      · (intro w hSw; (try dsimp only at hSw); go_simp; try (with_reducible rfl))
                                      try simp only [Act.put, List.setIfInBounds_toArray, List.set_cons_zero, List.set_cons_succ, List.getElem_toArray, List.getElem_cons_zero, List.getElem_cons_succ]
                                      refine wpAnyH_take (i := 17) (v := ?_) rfl (by kernel_rfl) (by kernel_rfl) (by kernel_rfl) (fun _ _ _ h => h) (Or.inl ⟨by rfl, ?_⟩) (by assumption) ?_
                                      rotate_left
                                      · (intro w hSw; (try dsimp only at hSw); go_simp; try (with_reducible rfl))
                                      try simp only [Act.put, List.setIfInBounds_toArray, List.set_cons_zero, List.set_cons_succ, List.getElem_toArray, List.getElem_cons_zero, List.getElem_cons_succ]
                                      refine wpAnyH_take (i := 18) (v := ?_) rfl (by kernel_rfl) (by kernel_rfl) (by kernel_rfl) (fun _ _ _ h => h) (Or.inl ⟨by rfl, ?_⟩) (by assumption) ?_
                                      rotate_left
                                      · (intro w hSw; (try dsimp only at hSw); go_simp; try (with_reducible rfl))
                                      try simp only [Act.put, List.setIfInBounds_toArray, List.set_cons_zero, List.set_cons_succ, List.getElem_toArray, List.getElem_cons_zero, List.getElem_cons_succ]
                                      refine wpAnyH_take (i := 19) (v := ?_) rfl (by kernel_rfl) (by kernel_rfl) (by kernel_rfl) (fun _ _ _ h => h) (Or.inl ⟨by rfl, ?_⟩) (by assumption) ?_
                                      rotate_left
                                      · (intro w hSw; (try dsimp only at hSw); go_simp; try (with_reducible rfl))
                                      try simp only [Act.put, List.setIfInBounds_toArray, List.set_cons_zero, List.set_cons_succ, List.getElem_toArray, List.getElem_cons_zero, List.getElem_cons_succ]
                                      refine wpAnyH_take (i := 20) (v := ?_) rfl (by kernel_rfl) (by kernel_rfl) (by kernel_rfl) (fun _ _ _ h => h) (Or.inl ⟨by rfl, ?_⟩) (by assumption) ?_
                                      rotate_left
                                      · (intro w hSw; (try dsimp only at hSw); go_simp; try (with_reducible rfl))
                                      try simp only [Act.put, List.setIfInBounds_toArray, List.set_cons_zero, List.set_cons_succ, List.getElem_toArray, List.getElem_cons_zero, List.getElem_cons_succ]
                                      refine wpAnyH_take (i := 21) (v := ?_) rfl (by kernel_rfl) (by kernel_rfl) (by kernel_rfl) (fun _ _ _ h => h) (Or.inl ⟨by rfl, ?_⟩) (by assumption) ?_
                                      rotate_left
                                      · (intro w hSw; (try dsimp only at hSw); go_simp; try (with_reducible rfl))
                                      try simp only [Act.put, List.setIfInBounds_toArray, List.set_cons_zero, List.set_cons_succ, List.getElem_toArray, List.getElem_cons_zero, List.getElem_cons_succ]
                                      refine wpAnyH_take (i := 22) (v := ?_) rfl (by kernel_rfl) (by kernel_rfl) (by kernel_rfl) (fun _ _ _ h => h) (Or.inl ⟨by rfl, ?_⟩) (by assumption) ?_
                                      rotate_left
                                      · (intro w hSw; (try dsimp only at hSw); go_simp; try (with_reducible rfl))
                                      try simp only [Act.put, List.setIfInBounds_toArray, List.set_cons_zero, List.set_cons_succ, List.getElem_toArray, List.getElem_cons_zero, List.getElem_cons_succ]
                                      refine wpAnyH_take (i := 23) (v := ?_) rfl (by kernel_rfl) (by kernel_rfl) (by kernel_rfl) (fun _ _ _ h => h) (Or.inl ⟨by rfl, ?_⟩) (by assumption) ?_
                                      rotate_left
                                      · (intro w hSw; (try dsimp only at hSw); go_simp; try (with_reducible rfl))
                                      try simp only [Act.put, List.setIfInBounds_toArray, List.set_cons_zero, List.set_cons_succ, List.getElem_toArray, List.getElem_cons_zero, List.getElem_cons_succ]
                                      refine wpAnyH_take (i := 24) (v := ?_) rfl (by kernel_rfl) (by kernel_rfl) (by kernel_rfl) (fun _ _ _ h => h) (Or.inl ⟨by rfl, ?_⟩) (by assumption) ?_
                                      rotate_left
                                      · (intro w hSw; (try dsimp only at hSw); go_simp; try (with_reducible rfl))
                                      try simp only [Act.put, List.setIfInBounds_toArray, List.set_cons_zero, List.set_cons_succ, List.getElem_toArray, List.getElem_cons_zero, List.getElem_cons_succ]
                                      refine wpAnyH_take (i := 25) (v := ?_) rfl (by kernel_rfl) (by kernel_rfl) (by kernel_rfl) (fun _ _ _ h => h) (Or.inl ⟨by rfl, ?_⟩) (by assumption) ?_
                                      rotate_left
                                      · (intro w hSw; (try dsimp only at hSw); go_simp; try (with_reducible rfl))
                                      try simp only [Act.put, List.setIfInBounds_toArray, List.set_cons_zero, List.set_cons_succ, List.getElem_toArray, List.getElem_cons_zero, List.getElem_cons_succ]
                                      refine wpAnyH_ready (rs := [26]) (by kernel_rfl) (by simp) ?_
                                      refine AllReadyH.cons rfl (fun K hK => ?_) AllReadyH.nil
                                      go_simp
                                      refine (HC.out _ (Below.refl _ _).drew).mono ?_
                                      rintro e w10 ⟨rfl, hb10⟩
                                      obtain ⟨HB10⟩ : Nonempty (Hid (Below wr.heap.size wr w10)) := ⟨(Below.refl _ _).drew.trans hb10⟩
                                      have hKeep := HKC.out _ HB10.out
                                      clear hb10 hHeld
                                      refine hK.out _ _ ?_ (fun hHeld => ?_)
                                      · exact hKeep
                                      clear hK K hKeep
                                      try simp only [Act.put, List.setIfInBounds_toArray, List.set_cons_zero, List.set_cons_succ, List.getElem_toArray, List.getElem_cons_zero, List.getElem_cons_succ]
                                      refine wpAnyH_take (i := 27) (v := ?_) rfl (by kernel_rfl) (by kernel_rfl) (by kernel_rfl) (fun _ _ _ h => h) (Or.inl ⟨by rfl, ?_⟩) (by assumption) ?_
                                      rotate_left
                                      · (intro w hSw; (try dsimp only at hSw); go_simp; try (with_reducible rfl))
                                      try simp only [Act.put, List.setIfInBounds_toArray, List.set_cons_zero, List.set_cons_succ, List.getElem_toArray, List.getElem_cons_zero, List.getElem_cons_succ]
                                      refine wpAnyH_take (i := 28) (v := ?_) rfl (by kernel_rfl) (by kernel_rfl) (by kernel_rfl) (fun _ _ _ h => h) (Or.inl ⟨by rfl, ?_⟩) (by assumption) ?_
                                      rotate_left
                                      · (intro w hSw; (try dsimp only at hSw); go_simp; try (with_reducible rfl))
                                      try simp only [Act.put, List.setIfInBounds_toArray, List.set_cons_zero, List.set_cons_succ, List.getElem_toArray, List.getElem_cons_zero, List.getElem_cons_succ]
                                      refine wpAnyH_done (by kernel_rfl) ?_ _
                                      clear hHeld hwk
                                      obtain ⟨HBX⟩ : Nonempty (Hid (Below W9.heap.size W9 w10)) := ⟨HW.out.trans (HB10.out.mono HW.out.size)⟩
                                      go_wp2_with fail
                                      go_roundw
                                      case rel => first | exact ⟨k + 1, by go_num, by omega, HBX⟩ | ((repeat apply Exists.intro); exact ⟨⟨k + 1, by go_num, by omega, HBX⟩, rfl⟩)
                                      case measure => simp [intOf]; omega
                                  · obtain rfl : k = L'.length := by omega
                                    obtain ⟨⟨t2, t3⟩, ⟨s2, s3⟩, -⟩ := HY.out wr HW.out
                                    go_upto_region 42 with fail
                                    clear t2 t3 s2 s3
                                    go_cut [22] from 24 (fun b w' => b = .bool false ∧ Hid (Below W9.heap.size W9 w'))
                                    case first J4 K4 hJ4 hK4 =>
                                      go_wp2_with fail
                                      go_meet
                                      exact ⟨rfl, HW⟩
                                    case rest =>
                                      as_aux_lemma =>
                                        obtain ⟨rfl, HC4⟩ := hcut
                                        clear HW hk hlt HC3
                                        obtain ⟨x, hx⟩ : ∃ x, Hid (L[a].dst = x) := ⟨_, show _ = _ from rfl⟩
                                        go_wp2_with fail
                                        go_loopw [22, 23] (fun b i wr => ∃ k : Nat, i = .int .i64 k ∧ k ≤ D'.length ∧ b = .bool (decide (x ∈ D'.take k)) ∧ Hid (Below W9.heap.size W9 wr)) (fun _ i _ => D'.length - (intOf i).toNat)
                                        case atStart => exact ⟨0, rfl, Nat.zero_le _, by simp, HC4⟩
                                        case round =>
                                          obtain ⟨k, rfl, hk, rfl, HW⟩ := hrel
                                          obtain ⟨⟨t2, t3⟩, ⟨s2, s3⟩, hP1, -, hR2, hbW⟩ := HY.out wr HW.out
                                          obtain ⟨lb, hlb⟩ : ∃ l, Hid (decide (x ∈ D'.take k) = l) := ⟨_, show _ = _ from rfl⟩
                                          rw [show decide (x ∈ D'.take k) = lb from hlb.out]
                                          by_cases hlt : k < D'.length
                                          · have q3 : (k : Int) < D'.length := by omega
                                            have hdl : D'.length ≤ 62 := by have := HLE.out.1; omega
                                            have q5 : (a : Int) < L.length := by have := HSZ.out.2.1; omega
                                            obtain ⟨b1, o1, rfl, a0, a1⟩ := hP1 k hlt
                                            obtain ⟨b2, o2, rfl, q1, e1, q2, e2, f0, f1, -⟩ := hR2 a HSZ.out.2.1
                                            have hsn : decide (x ∈ D'.take (k + 1)) = (lb || decide (x = D'[k])) := by
                                              rw [← hlb.out, ← Bool.decide_or, decide_eq_decide, List.take_succ_eq_append_getElem hlt, List.mem_append, List.mem_singleton]
                                            rw [show L[a].dst = x from hx.out] at f0 f1
                                            obtain ⟨y0, hy0⟩ : ∃ l, Hid (D'[k].1 = l) := ⟨_, show _ = _ from rfl⟩
                                            obtain ⟨y1, hy1⟩ : ∃ l, Hid (D'[k].2 = l) := ⟨_, show _ = _ from rfl⟩
                                            obtain ⟨x0, hx0⟩ : ∃ l, Hid (x.1 = l) := ⟨_, show _ = _ from rfl⟩
                                            obtain ⟨x1, hx1⟩ : ∃ l, Hid (x.2 = l) := ⟨_, show _ = _ from rfl⟩
                                            have hdx : decide (x = D'[k]) = decide (x0 = y0 ∧ x1 = y1) := by
                                              rw [← hy0.out, ← hy1.out, ← hx0.out, ← hx1.out, decide_eq_decide]
                                              exact ⟨fun e => by rw [e]; exact ⟨rfl, rfl⟩, fun e => Prod.ext e.1 e.2⟩
                                            rw [show D'[k].1 = y0 from hy0.out] at a0
                                            rw [show D'[k].2 = y1 from hy1.out] at a1
                                            rw [show x.1 = x0 from hx0.out] at f0
                                            rw [show x.2 = x1 from hx1.out] at f1
                                            obtain ⟨HSN⟩ : Nonempty (Hid (decide (x ∈ D'.take (k + 1)) = (lb || decide (x0 = y0 ∧ x1 = y1)))) := ⟨by show _ = _; rw [hsn, hdx]⟩
                                            clear hsn hdx hlb hP1 hR2 hbW
                                            go_upto_region 46 with fail
                                            cases lb with
                                            | true =>
                                              have HS2 : Hid (true = decide (x ∈ D'.take (k + 1))) := by
                                                show _ = _
                                                rw [HSN.out]; rfl
                                              go_quiet (fail)
                                              go_wp2
                                              go_roundw
                                              case rel => first | exact ⟨k + 1, by go_num, by omega, by rw [← HS2.out], below_drewN HW.out _⟩ | ((repeat apply Exists.intro); exact ⟨⟨k + 1, by go_num, by omega, by rw [← HS2.out], below_drewN HW.out _⟩, rfl⟩)
                                              case measure => simp [intOf]; omega
                                            | false =>
                                              by_cases h0 : x0 = y0
                                              · by_cases h1 : x1 = y1
                                                · have HS2 : Hid (true = decide (x ∈ D'.take (k + 1))) := by
                                                    show _ = _
                                                    rw [HSN.out, decide_eq_true ⟨h0, h1⟩]; rfl
                                                  subst h0
                                                  subst h1
                                                  go_quiet (fail)
                                                  go_wp2
                                                  go_roundw
                                                  case rel => first | exact ⟨k + 1, by go_num, by omega, by rw [← HS2.out], below_drewN HW.out _⟩ | ((repeat apply Exists.intro); exact ⟨⟨k + 1, by go_num, by omega, by rw [← HS2.out], below_drewN HW.out _⟩, rfl⟩)
                                                  case measure => simp [intOf]; omega
                                                · have HS2 : Hid (false = decide (x ∈ D'.take (k + 1))) := by
                                                    show _ = _
                                                    rw [HSN.out, decide_eq_false (fun h => h1 h.2)]; rfl
                                                  subst h0
                                                  have h1' : (y1 == x1) = false := beq_eq_false_iff_ne.2 (fun e => h1 e.symm)
                                                  have h1'' : (x1 == y1) = false := beq_eq_false_iff_ne.2 h1
                                                  clear h1
                                                  go_quiet (fail)
                                                  go_wp2
                                                  go_roundw
                                                  case rel => first | exact ⟨k + 1, by go_num, by omega, by rw [← HS2.out], below_drewN HW.out _⟩ | ((repeat apply Exists.intro); exact ⟨⟨k + 1, by go_num, by omega, by rw [← HS2.out], below_drewN HW.out _⟩, rfl⟩)
                                                  case measure => simp [intOf]; omega
                                              · have HS2 : Hid (false = decide (x ∈ D'.take (k + 1))) := by
                                                  show _ = _
                                                  rw [HSN.out, decide_eq_false (fun h => h0 h.1)]; rfl
                                                have h0' : (y0 == x0) = false := beq_eq_false_iff_ne.2 (fun e => h0 e.symm)
                                                have h0'' : (x0 == y0) = false := beq_eq_false_iff_ne.2 h0
                                                clear h0
                                                go_quiet (fail)
                                                go_wp2
                                                go_roundw
                                                case rel => first | exact ⟨k + 1, by go_num, by omega, by rw [← HS2.out], below_drewN HW.out _⟩ | ((repeat apply Exists.intro); exact ⟨⟨k + 1, by go_num, by omega, by rw [← HS2.out], below_drewN HW.out _⟩, rfl⟩)
                                                case measure => simp [intOf]; omega
                                          · obtain rfl : k = D'.length := by omega
                                            have HT9 : Hid (lb = true) := by
                                              show _ = _
                                              rw [← hlb.out, List.take_length, ← hx.out]
                                              exact decide_eq_true HLE.out.2.2
                                            go_wp2_with fail
                                            go_ret
                                            exact ⟨by rw [HT9.out]; rfl, HBW.out _ (HY.out wr HW.out).2.2.2.2.2⟩
end Go.Proofs.YtbfdgflbflajdaaGreatDoor
