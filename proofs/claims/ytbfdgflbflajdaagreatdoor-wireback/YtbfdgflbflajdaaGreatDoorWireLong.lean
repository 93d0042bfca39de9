/-
  The law's LongMsg: what it returns.
-/
import Derived.Test.YtbfdgflbflajdaaGreatDoorGI
import Derived.Test.YtbfdgflbflajdaaGreatDoorGB
import Derived.Deep.Cut
import Derived.Deep.CutRange
namespace Go.Proofs.YtbfdgflbflajdaaGreatDoor
open Go.RowKit

def longM (M : Ms) : Bool := decide (20 < M.kind.length) || (decide (30 < M.drops.length) && !decide (M.drops.length = 61)) || (decide (30 < M.adds.length) && !decide (M.adds.length = 61)) || M.adds.any (fun r => longA r.att)
theorem longM_false {M : Ms} (h : longM M = false) : M.kind.length ≤ 20 ∧ M.drops.length ≤ 61 ∧ M.adds.length ≤ 61 ∧ ∀ r ∈ M.adds, r.att.path.length ≤ 20 ∧ r.att.tags.length ≤ 15 := by
  unfold longM at h
  simp only [Bool.or_eq_false_iff, Bool.and_eq_false_imp, decide_eq_false_iff_not, decide_eq_true_eq, Bool.not_eq_eq_eq_not, Bool.not_false, List.any_eq_false] at h
  obtain ⟨⟨⟨h1, h2⟩, h3⟩, h4⟩ := h
  refine ⟨by omega, ?_, ?_, fun r hr => ?_⟩
  · by_cases h : 30 < M.drops.length
    · have := h2 h; omega
    · omega
  · by_cases h : 30 < M.adds.length
    · have := h3 h; omega
    · omega
  · have := h4 r hr
    unfold longA at this
    simp only [Bool.or_eq_true, decide_eq_true_eq, not_or] at this
    omega

set_option linter.unusedVariables false in
set_option linter.unusedSimpArgs false in
set_option maxRecDepth 100000 in
set_option maxHeartbeats 4000000 in
theorem longMsg_any (v : Value) (M : Ms) (w : World) (h : IsMsg w v M) :
    Calls Tryz.prog 28 #[v] w fun r w' => r = .returned (.int .i64 (if longM M then 1 else 0)) ∧ Below w.heap.size w w' := by
  obtain ⟨p, c, q, d, rfl, -, i2⟩ := h
  obtain ⟨K, n, D, L⟩ := M
  simp only at *
  obtain ⟨x0, x1, x2, x3⟩ := msg_box w (.string ⟨K.toArray⟩) (.int .i64 n) (.slice p D.length c) (.slice q L.length d) (Below.refl _ _)
  obtain ⟨N, hN⟩ : ∃ N, Hid (w.heap.size = N) := ⟨_, show _ = _ from rfl⟩
  obtain ⟨W, hW⟩ : ∃ W, Hid (w.alloc (.cells #[.string ⟨K.toArray⟩, .int .i64 n, .slice p D.length c, .slice q L.length d] 55) = W) := ⟨_, show _ = _ from rfl⟩
  obtain ⟨HB⟩ : Nonempty (Hid (Below w.heap.size w W)) := ⟨by rw [← hW.out]; exact below_alloc _ _⟩
  rw [show w.alloc (.cells #[.string ⟨K.toArray⟩, .int .i64 n, .slice p D.length c, .slice q L.length d] 55) = W from hW.out, show w.heap.size = N from hN.out] at x0 x1 x2 x3
  obtain ⟨HX⟩ : Nonempty (Hid (∀ w', Below W.heap.size W w' → w'.cell? ⟨N, 3, none⟩ = some (.slice q L.length d))) := ⟨fun w' hb => cell_kept hb x3⟩
  obtain ⟨HR⟩ : Nonempty (Hid (∀ w', Below W.heap.size W w' → Routes w' q L)) := ⟨fun w' hb => (i2.below HB.out).below hb⟩
  have hK : (ByteArray.mk K.toArray).size = K.length := by simp [ByteArray.size]
  obtain ⟨res, hres⟩ : ∃ x, Hid ((if longM ⟨K, n, D, L⟩ then (1 : Int) else 0) = x) := ⟨_, show _ = _ from rfl⟩
  rw [show (if longM ⟨K, n, D, L⟩ then (1 : Int) else 0) = res from hres.out]
  obtain ⟨nd, hnd⟩ : ∃ x, D.length = x := ⟨_, rfl⟩
  obtain ⟨nl, hnl⟩ : ∃ x, L.length = x := ⟨_, rfl⟩
  rw [hnl] at HX
  rw [hnd] at x2
  rw [hnl] at x3
  rw [hnd, hnl] at hW
  rw [hnd, hnl]
  obtain ⟨HND⟩ : Nonempty (Hid (D.length = nd ∧ L.length = nl)) := ⟨⟨hnd, hnl⟩⟩
  clear i2
  obtain ⟨bg, hbg⟩ : ∃ b, Hid ((decide (20 < K.length) || (decide (30 < nd) && !decide (nd = 61)) || (decide (30 < nl) && !decide (nl = 61))) = b) := ⟨_, show _ = _ from rfl⟩
  have HRES : Hid (res = if bg || L.any (fun r => longA r.att) then 1 else 0) := by
    show _ = _
    rw [← hres.out, ← hbg.out, ← hnd, ← hnl]; rfl
  clear hres hnd hnl
  go_enter Tryz.func28, Tryz.ntmps28
  go_upto_region 1 with fail
  rw [show w.alloc (.cells #[.string ⟨K.toArray⟩, .int .i64 n, .slice p nd c, .slice q nl d] 55) = W from hW.out, show w.heap.size = N from hN.out]
  go_cut [31] from 4 (fun s w' => s = .bool bg ∧ Hid (Below W.heap.size W w'))
  case first J0 K0 hJ0 hK0 =>
    obtain ⟨HS⟩ : Nonempty (Hid (Below W.heap.size W W)) := ⟨Below.refl _ _⟩
    by_cases b1 : 20 < K.length
    · have b1' : decide (20 < (K.length : Int)) = true := decide_eq_true (by omega)
      have e : bg = true := by rw [← hbg.out, decide_eq_true b1]; rfl
      go_wp2_with fail
      go_meet
      exact ⟨by rw [e], HS⟩
    · have b1' : decide (20 < (K.length : Int)) = false := decide_eq_false (by omega)
      have e1 : bg = ((decide (30 < nd) && !decide (nd = 61)) || (decide (30 < nl) && !decide (nl = 61))) := by rw [← hbg.out, decide_eq_false b1]; rfl
      clear hbg
      obtain ⟨HE1⟩ : Nonempty (Hid (_ = _)) := ⟨e1⟩
      clear e1
      by_cases d0 : 30 < nd
      · by_cases d1 : nd = 61
        · subst d1
          by_cases l0 : 30 < nl
          · by_cases l1 : nl = 61
            · subst l1
              have e : bg = false := HE1.out
              go_wp2_with fail
              go_meet
              exact ⟨by rw [e], HS⟩
            · have e : bg = true := by rw [HE1.out, decide_eq_true l0, decide_eq_false l1]; rfl
              have l0' : decide (30 < (nl : Int)) = true := decide_eq_true (by omega)
              have l1' : ((nl : Int) == 61) = false := beq_eq_false_iff_ne.2 (by omega)
              have l1'' : ((nl : Int) != 61) = true := by rw [bne, l1']; rfl
              clear l0 l1
              go_wp2_with fail
              go_meet
              exact ⟨by rw [e], HS⟩
          · have e : bg = false := by rw [HE1.out, decide_eq_false l0]; rfl
            have l0' : decide (30 < (nl : Int)) = false := decide_eq_false (by omega)
            clear l0
            go_wp2_with fail
            go_meet
            exact ⟨by rw [e], HS⟩
        · have e : bg = true := by rw [HE1.out, decide_eq_true d0, decide_eq_false d1]; rfl
          have d0' : decide (30 < (nd : Int)) = true := decide_eq_true (by omega)
          have d1' : ((nd : Int) == 61) = false := beq_eq_false_iff_ne.2 (by omega)
          have d1'' : ((nd : Int) != 61) = true := by rw [bne, d1']; rfl
          clear d0 d1
          go_wp2_with fail
          go_meet
          exact ⟨by rw [e], HS⟩
      · have d0' : decide (30 < (nd : Int)) = false := decide_eq_false (by omega)
        by_cases l0 : 30 < nl
        · by_cases l1 : nl = 61
          · subst l1
            have e : bg = false := by rw [HE1.out, decide_eq_false d0]; rfl
            clear d0
            go_wp2_with fail
            go_meet
            exact ⟨by rw [e], HS⟩
          · have e : bg = true := by rw [HE1.out, decide_eq_false d0, decide_eq_true l0, decide_eq_false l1]; rfl
            have l0' : decide (30 < (nl : Int)) = true := decide_eq_true (by omega)
            have l1' : ((nl : Int) == 61) = false := beq_eq_false_iff_ne.2 (by omega)
            have l1'' : ((nl : Int) != 61) = true := by rw [bne, l1']; rfl
            clear d0 l0 l1
            go_wp2_with fail
            go_meet
            exact ⟨by rw [e], HS⟩
        · have e : bg = false := by rw [HE1.out, decide_eq_false d0, decide_eq_false l0]; rfl
          have l0' : decide (30 < (nl : Int)) = false := decide_eq_false (by omega)
          clear d0 l0
          go_wp2_with fail
          go_meet
          exact ⟨by rw [e], HS⟩
  case rest =>
    obtain ⟨rfl, HS⟩ := hcut
    cases bg with
    | true =>
      have HRES1 : Hid (res = 1) := by
        show _ = _
        rw [HRES.out]; rfl
      go_wp2_with fail
      go_ret
      exact ⟨by rw [HRES1.out]; rfl, HB.out.trans (HS.out.mono HB.out.size)⟩
    | false =>
      have HRES : Hid (res = if L.any (fun r => longA r.att) then 1 else 0) := HRES
      have hnl9 : nl ≤ 61 := by
        have := hbg.out
        simp only [Bool.or_eq_false_iff, Bool.and_eq_false_imp, decide_eq_true_eq, Bool.not_eq_eq_eq_not, Bool.not_false] at this
        by_cases h : 30 < nl
        · have := this.2 h; omega
        · omega
      clear hbg
      go_wp2_with fail
      go_loopw [3] (fun i wr => ∃ k : Nat, i = .int .i64 k ∧ k ≤ nl ∧ Hid ((L.take k).any (fun r => longA r.att) = false) ∧ Hid (Below W.heap.size W wr)) (fun i _ => nl - (intOf i).toNat)
      case atStart => exact ⟨0, rfl, Nat.zero_le _, by show _ = _; simp, HS⟩
      case round =>
        obtain ⟨k, rfl, hk, HK, HW⟩ := hrel
        have x3' := HX.out _ HW.out
        by_cases hlt : k < nl
        · have hkl : k < L.length := by have := HND.out.2; omega
          obtain ⟨b, o, rfl, p1, c1, p2, c2, d0, d1', d2', d3, d4, d5, d6, d7, j1, j2⟩ := HR.out wr HW.out k hkl
          have q3 : (k : Int) < nl := by omega
          obtain ⟨HC⟩ : Nonempty (Hid (∀ w', Below wr.heap.size wr w' → Calls _ _ _ _ _)) := ⟨fun w' hb => rLongAttr_any (.agg #[.slice p1 L[k].att.path.length c1, .int .i64 L[k].att.pref, .int .i64 L[k].att.med, .int .i64 L[k].att.org, .slice p2 L[k].att.tags.length c2]) L[k].att w' ⟨p1, c1, p2, c2, rfl, j1.below hb, j2.below hb⟩⟩
          have HN : Hid ((L.take (k + 1)).any (fun r => longA r.att) = longA L[k].att) := by
            show _ = _
            rw [List.take_succ_eq_append_getElem hkl, List.any_append, HK.out]; simp
          have hany : longA L[k].att = true → L.any (fun r => longA r.att) = true := fun h => List.any_eq_true.2 ⟨L[k], List.getElem_mem hkl, h⟩
          obtain ⟨A, hA⟩ : ∃ A, Hid (L[k].att = A) := ⟨_, show _ = _ from rfl⟩
          obtain ⟨t, ht⟩ : ∃ t, Hid (longA A = t) := ⟨_, show _ = _ from rfl⟩
          rw [show L[k].att = A from hA.out] at HC HN hany d2' d3 d4 d5 d6
          rw [show longA A = t from ht.out] at HC HN hany
          clear d0 d1' d7 j1 j2
          cases t with
          | true =>
            obtain ⟨HANY⟩ : Nonempty (Hid (L.any (fun r => longA r.att) = true)) := ⟨hany rfl⟩
            clear hany
            go_wp2_with fail
            refine (HC.out _ (Below.refl _ _)).mono ?_
            rintro e w1 ⟨rfl, hb1⟩
            obtain ⟨HB1⟩ : Nonempty (Hid (Below w.heap.size w w1)) := ⟨HB.out.trans ((HW.out.trans (hb1.mono HW.out.size)).mono HB.out.size)⟩
            clear hb1
            go_wp2_with fail
            go_ret
            refine ⟨?_, HB1.out⟩
            rw [HRES.out, HANY.out]; rfl
          | false =>
            clear hany
            go_wp2_with fail
            refine (HC.out _ (Below.refl _ _)).mono ?_
            rintro e w1 ⟨rfl, hb1⟩
            obtain ⟨HB1⟩ : Nonempty (Hid (Below W.heap.size W w1)) := ⟨HW.out.trans (hb1.mono HW.out.size)⟩
            clear hb1
            go_wp2_with fail
            go_roundw
            case rel => first | exact ⟨k + 1, by go_num, by omega, HN, HB1⟩ | ((repeat apply Exists.intro); exact ⟨⟨k + 1, by go_num, by omega, HN, HB1⟩, rfl⟩)
            case measure => simp [intOf]; omega
        · obtain rfl : k = nl := by omega
          have HN : Hid (L.any (fun r => longA r.att) = false) := by
            have := HK.out
            rw [List.take_of_length_le (by have := HND.out.2; omega)] at this
            exact this
          go_wp2_with fail
          go_ret
          refine ⟨?_, HB.out.trans (HW.out.mono HB.out.size)⟩
          rw [HRES.out, HN.out]; rfl
end Go.Proofs.YtbfdgflbflajdaaGreatDoor
