/-
  The law SetTells: whatever two lists of prefixes, whatever number: true.
-/
import Derived.Test.YthehpnhjfnenoaaGreatDoorTellsSet0
namespace Go.Proofs.YthehpnhjfnenoaaGreatDoor
open Go.RowKit

/-- what the law reads: package set's variables and package api's errors, two lists and their copies. -/
structure TIn (w : World) (e : Nat → Addr) (a b : List (Int × Int)) (pa pb qp qq : Option Addr) : Prop where
  env : SetEnv w (e 0) (e 1) (e 2)
  errs : ErrsLaid w e
  pa : Pairs w pa a
  pb : Pairs w pb b
  pp : Pairs w qp a
  pq : Pairs w qq b
theorem TIn.below {w w' : World} {e : Nat → Addr} {a b : List (Int × Int)} {pa pb qp qq : Option Addr} (h : TIn w e a b pa pb qp qq) (hb : Below w.heap.size w w') : TIn w' e a b pa pb qp qq :=
  ⟨h.env.below hb, h.errs.below hb, h.pa.below hb, h.pb.below hb, h.pp.below hb, h.pq.below hb⟩
theorem sumP_append (L M : List (Int × Int)) : sumP (L ++ M) = sumP L + sumP M := by
  induction L with
  | nil => simp [sumP]
  | cons p r ih => simp only [List.cons_append, sumP, ih]; omega
theorem sumP_step (L : List (Int × Int)) (k : Nat) (hk : k < L.length) : sumP (L.take k) + pw L[k].2 = sumP (L.take (k + 1)) := by
  rw [List.take_succ_eq_append_getElem hk, sumP_append]; simp [sumP]
theorem sumP_nonneg (L : List (Int × Int)) : 0 ≤ sumP L := by
  induction L with
  | nil => exact Int.le_refl _
  | cons p r ih => have := pw_pos p.2; simp only [sumP]; omega
theorem sumP_take (L : List (Int × Int)) (k : Nat) : sumP (L.take k) ≤ sumP L := by
  have h := sumP_append (L.take k) (L.drop k)
  rw [List.take_append_drop] at h
  have := sumP_nonneg (L.drop k)
  omega
theorem Res.sum {w : World} {v : Value} {L : List (Int × Int)} {ok : Bool} {g : Int → Bool} (h : Res w v L ok g) : sumP L ≤ 4294967296 := by
  cases ok with
  | false => rw [h.no rfl]; simp [sumP]
  | true =>
    obtain ⟨N, hN⟩ : ∃ N : Nat, N = 4294967296 := ⟨_, rfl⟩
    have := cnt_np N hN L (h.yes rfl).1
    have h2 := cnt_le (inPB L) N
    omega
theorem wantG_nil (a : List (Int × Int)) (x : Int) : inPB a x = wantG a [] 2 x := by unfold wantG wantB; simp [inPB]
theorem want_or (a b : List (Int × Int)) (x : Int) : askB (fun x y => x || y) a b x = wantG a b 2 x := by unfold wantG wantB askB; simp
theorem want_and (a b : List (Int × Int)) (x : Int) : askB (fun x y => x && y) a b x = wantG a b 1 x := by unfold wantG wantB askB; simp
theorem want_not (a b : List (Int × Int)) (x : Int) : askB (fun x y => x && !y) a b x = wantG a b 3 x := by unfold wantG wantB askB; simp

set_option linter.unusedVariables false in
set_option linter.unusedSimpArgs false in
set_option maxRecDepth 100000 in
set_option maxHeartbeats 16000000 in
theorem tellsSet_any (a b : List (Int × Int)) (x : Int) (pa pb : Option Addr) (ca cb : Nat) (e : Nat → Addr) (w : World) (hE : SetEnv w (e 0) (e 1) (e 2)) (hL : ErrsLaid w e) (hpa : Pairs w pa a) (hpb : Pairs w pb b) (hka : Kind (.slice pa a.length ca) a.length) (hkb : Kind (.slice pb b.length cb) b.length) :
    Calls Tryz.prog 3 #[.slice pa a.length ca, .slice pb b.length cb, .int .i64 x] w fun r w' => r = .returned (.bool true) ∧ Below w.heap.size w w' := by
  obtain ⟨i, hri⟩ := right_to a
  obtain ⟨j, hrj⟩ := right_to b
  obtain ⟨HST⟩ : Nonempty (Hid (Calls _ _ _ _ _)) := ⟨setted_any (e 0) (e 1) (e 2) w hE⟩
  obtain ⟨H0⟩ : Nonempty (Hid (SetEnv w (e 0) (e 1) (e 2) ∧ ErrsLaid w e ∧ Pairs w pa a ∧ Pairs w pb b)) := ⟨⟨hE, hL, hpa, hpb⟩⟩
  obtain ⟨HR⟩ : Nonempty (Hid (RightTo a i ∧ RightTo b j ∧ Kind (.slice pa a.length ca) a.length ∧ Kind (.slice pb b.length cb) b.length ∧ RightTo [] 0)) := ⟨⟨hri, hrj, hka, hkb, rights_to (fun p hp => by cases hp)⟩⟩
  obtain ⟨f0, f1, HF⟩ : ∃ f0 f1, Hid (faultC a i = (f0, f1)) := ⟨_, _, show _ = _ from rfl⟩
  obtain ⟨g0, g1, HG⟩ : ∃ g0 g1, Hid (fault2 a b i j = (g0, g1)) := ⟨_, _, show _ = _ from rfl⟩
  obtain ⟨HF2⟩ : Nonempty (Hid (Hid (fault2 a [] i 0 = (f0, f1)))) := ⟨by
    show fault2 a [] i 0 = (f0, f1)
    rw [← HF.out]
    unfold fault2
    split
    · rfl
    · rename_i h; unfold faultC; rw [dif_neg (by simp), dif_neg h]⟩
  clear hE hL hpa hpb hri hrj hka hkb
  go_enter Tryz.func3, Tryz.ntmps3
  go_wp2_with fail
  refine HST.out.mono ?_
  rintro r w1 ⟨rfl, hbt⟩
  clear HST
  by_cases hla : 20 < a.length
  · have h1 : (20 : Int) < (a.length : Int) := by omega
    go_wp2
    go_ret
    exact ⟨rfl, hbt⟩
  by_cases hlb : 20 < b.length
  · have h1 : (20 : Int) < (b.length : Int) := by omega
    have h2 : ¬ (20 : Int) < (a.length : Int) := by omega
    go_wp2
    go_ret
    exact ⟨rfl, hbt⟩
  have h1 : ¬ (20 : Int) < (a.length : Int) := by omega
  have h2 : ¬ (20 : Int) < (b.length : Int) := by omega
  obtain ⟨HN⟩ : Nonempty (Hid (Calls _ _ _ _ _)) := ⟨ownPrefixes_any a pa ca w1 (H0.out.2.2.1.below hbt) HR.out.2.2.1 (by omega)⟩
  go_wp2_with fail
  refine HN.out.mono ?_
  clear HN
  rintro r w2 ⟨⟨v0, rfl, hown0⟩, hb⟩
  obtain ⟨qp, cp, hv0, -, -, hpp⟩ := own_pairs hown0
  subst hv0
  have hbt2 := hbt.trans (hb.mono hbt.size)
  obtain ⟨HN⟩ : Nonempty (Hid (Calls _ _ _ _ _)) := ⟨ownPrefixes_any b pb cb w2 (H0.out.2.2.2.below hbt2) HR.out.2.2.2.1 (by omega)⟩
  clear hown0 hb hbt
  go_wp2_with fail
  refine HN.out.mono ?_
  clear HN
  rintro r w3 ⟨⟨v1, rfl, hown1⟩, hb⟩
  obtain ⟨qq, cq, hv1, -, -, hpq⟩ := own_pairs hown1
  subst hv1
  have hbt := hbt2.trans (hb.mono hbt2.size)
  obtain ⟨HP⟩ : Nonempty (Hid (TIn w3 e a b pa pb qp qq)) := ⟨⟨H0.out.1.below hbt, H0.out.2.1.below hbt, H0.out.2.2.1.below hbt, H0.out.2.2.2.below hbt, hpp.below hb, hpq⟩⟩
  clear hown1 hb hbt2 hpp hpq H0
  obtain ⟨HN⟩ : Nonempty (Hid (Calls _ _ _ _ _)) := ⟨normR a i HR.out.1 f0 f1 HF qp cp e w3 HP.out.env HP.out.pp (by omega)⟩
  go_wp2_with fail
  refine HN.out.mono ?_
  clear HN
  rintro r w4 ⟨⟨L1, v1, err1, rfl, hR1, hC1⟩, hb⟩
  obtain ⟨HN⟩ : Nonempty (Hid (Calls _ _ _ _ _)) := ⟨setOfR a [] i 0 HR.out.1 HR.out.2.2.2.2 f0 f1 HF2.out pa none ca 0 2 w4 (HP.out.pa.below hb) (pairs_nil _ _) (by omega) (by simp)⟩
  obtain ⟨HP4⟩ : Nonempty (Hid (TIn w4 e a b pa pb qp qq ∧ Res w4 v1 L1 (decide (i = a.length)) (inPB a) ∧ ErrR e w4 err1 f0 f1)) := ⟨⟨HP.out.below hb, hR1, hC1⟩⟩
  have hbt4 := hbt.trans (hb.mono hbt.size)
  clear HP hb hbt hR1 hC1
  obtain ⟨q1, c1, hv1, -⟩ := HP4.out.2.1.row
  subst hv1
  go_wp2_with fail
  refine HN.out.mono ?_
  clear HN
  rintro r w5 ⟨⟨L2, v2, rfl, hR2⟩, hb⟩
  have hok : (decide (i = a.length) && decide ((0 : Nat) = ([] : List (Int × Int)).length)) = decide (i = a.length) := by simp
  rw [hok] at hR2
  have hb56 := below_alloc w5 (.cells #[.int .i64 f0, .int .i64 f1] 30)
  have hr13 := Go.heap_alloc_new w5 (.cells #[.int .i64 f0, .int .i64 f1] 30)
  obtain ⟨b13, hb13⟩ : ∃ b, Hid (w5.heap.size = b) := ⟨_, show _ = _ from rfl⟩
  obtain ⟨w6, hw6⟩ : ∃ W, Hid (w5.alloc (.cells #[.int .i64 f0, .int .i64 f1] 30) = W) := ⟨_, show _ = _ from rfl⟩
  have hbt5 := hbt4.trans (hb.mono hbt4.size)
  have hb46 := hb.trans (hb56.mono hb.size)
  rw [show w5.alloc (.cells #[.int .i64 f0, .int .i64 f1] 30) = w6 from hw6.out] at hb56 hr13 hb46
  rw [show w5.heap.size = b13 from hb13.out] at hr13
  have hbase : w.heap.size ≤ b13 := by rw [← hb13.out]; exact hbt5.size
  obtain ⟨HB⟩ : Nonempty (Hid (TIn w5 e a b pa pb qp qq ∧ Below w.heap.size w w5)) := ⟨⟨HP4.out.1.below hb, hbt5⟩⟩
  have hE12 : L1 = L2 := res_same HP4.out.2.1 hR2 (fun z => wantG_nil a z)
  obtain ⟨q2, c2, hv2, -⟩ := hR2.row
  subst hv2
  obtain ⟨HP⟩ : Nonempty (Hid (Res w6 (.slice q1 L1.length c1) L1 (decide (i = a.length)) (inPB a) ∧ ErrR e w6 err1 f0 f1 ∧ Res w6 (.slice q2 L2.length c2) L2 (decide (i = a.length)) (wantG a [] 2) ∧ w6.heap[b13]? = some (.cells #[.int .i64 f0, .int .i64 f1] 30 (0, 0)) ∧ Below b13 w5 w6 ∧ L1 = L2)) := ⟨⟨HP4.out.2.1.below hb46, HP4.out.2.2.below hb46, hR2.below hb56, hr13, by rw [← show w5.heap.size = b13 from hb13.out]; exact hb56, hE12⟩⟩
  obtain ⟨HZ⟩ : Nonempty (Hid (w5.heap.size = b13)) := ⟨hb13.out⟩
  clear HP4 hb hbt4 hbt5 hb56 hb46 hr13 hR2 hok hE12
  go_upto_region 8 with fail
  rw [show w5.alloc (.cells #[.int .i64 f0, .int .i64 f1] 30) = w6 from hw6.out, show w5.heap.size = b13 from hb13.out]
  clear hw6 hb13
  obtain ⟨x0, x1, -, -, hl13⟩ := row_cells HP.out.2.2.2.1
  obtain ⟨HN⟩ : Nonempty (Hid (Calls _ _ _ _ _)) := ⟨faulted_of err1 f0 f1 w6 (HP.out.2.1.code (HB.out.1.below (by rw [show w5.heap.size = b13 from HZ.out]; exact HP.out.2.2.2.2.1)).errs)⟩
  go_wp2_with fail
  refine HN.out.mono ?_
  clear HN
  rintro r w7 ⟨rfl, hb⟩
  obtain ⟨HN⟩ : Nonempty (Hid (Calls _ _ _ _ _)) := ⟨samePrefixes_any L1 L2 q1 q2 c1 c2 w7 (by obtain ⟨q, c, e1, hp⟩ := (HP.out.1.below hb).row; cases e1; exact hp) (by obtain ⟨q, c, e1, hp⟩ := (HP.out.2.2.1.below hb).row; cases e1; exact hp) (by have := HP.out.1.few; omega)⟩
  rw [decide_eq_true HP.out.2.2.2.2.2] at HN
  clear x0 x1 hl13
  go_wp2_with fail
  refine HN.out.mono ?_
  clear HN
  rintro r w8 ⟨rfl, hb2⟩
  have hb68 := hb.trans (hb2.mono hb.size)
  obtain ⟨HQ⟩ : Nonempty (Hid (Res w8 (.slice q2 L2.length c2) L2 (decide (i = a.length)) (wantG a [] 2) ∧ w8.heap[b13]? = some (.cells #[.int .i64 f0, .int .i64 f1] 30 (0, 0)) ∧ Below b13 w5 w8)) := ⟨⟨HP.out.2.2.1.below hb68, by rw [hb68.block b13 (row_cells HP.out.2.2.2.1).2.2.2.2]; exact HP.out.2.2.2.1, HP.out.2.2.2.2.1.trans (hb68.mono (Nat.le_of_lt (row_cells HP.out.2.2.2.1).2.2.2.2))⟩⟩
  obtain ⟨HTI⟩ : Nonempty (Hid (∀ W, Below b13 w5 W → TIn W e a b pa pb qp qq ∧ Below w.heap.size w W)) := ⟨fun W h => ⟨HB.out.1.below (by rw [show w5.heap.size = b13 from HZ.out]; exact h), HB.out.2.trans (h.mono hbase)⟩⟩
  clear HP hb hb2 hb68 HB HZ
  have hT8 := HTI.out w8 HQ.out.2.2
  obtain ⟨HN⟩ : Nonempty (Hid (Calls _ _ _ _ _)) := ⟨countR a i HR.out.1 f0 f1 HF L2 (fun h => ⟨(HQ.out.1.yes h).1, fun z => by rw [(HQ.out.1.yes h).2, wantG_nil]⟩) HQ.out.1.no qp cp e w8 hT8.1.env hT8.1.pp (by omega)⟩
  clear hT8
  go_wp2_with fail
  refine HN.out.mono ?_
  clear HN
  rintro r w9 ⟨⟨err2, rfl, hC2⟩, hb⟩
  obtain ⟨s, hs⟩ : ∃ s, Hid (sumP L2 = s) := ⟨_, show _ = _ from rfl⟩
  rw [show sumP L2 = s from hs.out]
  obtain ⟨HQ9⟩ : Nonempty (Hid (Res w9 (.slice q2 L2.length c2) L2 (decide (i = a.length)) (wantG a [] 2) ∧ w9.heap[b13]? = some (.cells #[.int .i64 f0, .int .i64 f1] 30 (0, 0)) ∧ Below b13 w5 w9 ∧ ErrR e w9 err2 f0 f1)) := ⟨⟨HQ.out.1.below hb, by rw [hb.block b13 (row_cells HQ.out.2.1).2.2.2.2]; exact HQ.out.2.1, HQ.out.2.2.trans (hb.mono (Nat.le_of_lt (row_cells HQ.out.2.1).2.2.2.2)), hC2⟩⟩
  clear HQ hb hC2
  go_wp2
  go_loopw [15, 16] (fun t z wr => ∃ k : Nat, z = .int .i64 k ∧ t = .int .i64 (sumP (L2.take k)) ∧ k ≤ L2.length ∧ Below w9.heap.size w9 wr) (fun _ z _ => L2.length - (intOf z).toNat)
  case atStart => exact ⟨0, rfl, rfl, Nat.zero_le _, Below.refl _ _⟩
  case round =>
    obtain ⟨k, rfl, rfl, hk, hbo⟩ := hrel
    have hfew := HQ9.out.1.few
    by_cases hlt : k < L2.length
    · obtain ⟨q', c', e1, hp⟩ := HQ9.out.1.row
      simp only [Value.slice.injEq, true_and] at e1
      obtain ⟨rfl, rfl⟩ := e1
      obtain ⟨b0, o0, hq0, d0, d1⟩ := hp k hlt
      subst hq0
      have d1' := cell_kept hbo d1
      have hr := HQ9.out.1.right _ (List.getElem_mem hlt)
      have hst := sumP_step L2 k hlt
      have hn0 := sumP_nonneg (L2.take k)
      have hn1 := Int.le_trans (sumP_take L2 (k + 1)) HQ9.out.1.sum
      obtain ⟨y1, hy1⟩ : ∃ y, Hid (L2[k].2 = y) := ⟨_, show _ = _ from rfl⟩
      obtain ⟨t, ht⟩ : ∃ t, Hid (sumP (L2.take k) = t) := ⟨_, show _ = _ from rfl⟩
      have hil := rt_isL hr
      rw [show L2[k].2 = y1 from hy1.out] at d1' hst hil
      rw [show sumP (L2.take k) = t from ht.out] at hst hn0 ⊢
      obtain ⟨sz, hsz⟩ : ∃ z, Hid (pw y1 = z) := ⟨_, show _ = _ from rfl⟩
      have hpp := pw_pos y1
      rw [show pw y1 = sz from hsz.out] at hst hpp
      obtain ⟨HST⟩ : Nonempty (Hid (t + sz = sumP (L2.take (k + 1)))) := ⟨hst⟩
      rw [← hst] at hn1
      have hw : IntKind.i64.wrap (t + sz) = t + sz := wrapI _ (by omega) (by omega)
      have hlt' : (k : Int) < (L2.length : Int) := by omega
      obtain ⟨HN⟩ : Nonempty (Hid (Calls _ _ _ _ _)) := ⟨rSizeOf_at y1 sz hsz hil wr⟩
      clear d0 d1 hst hn1 hp hr
      go_wp2_with fail
      refine HN.out.mono ?_
      clear HN
      rintro r ws ⟨rfl, hws⟩
      subst hws
      clear d1'
      go_wp2
      go_roundw
      case rel => exact ⟨k + 1, by go_num, by rw [HST.out], by omega, hbo⟩
      case measure => simp [intOf]; omega
    · have hkO : sumP (L2.take k) = s := by rw [List.take_of_length_le (by omega)]; exact hs.out
      rw [hkO]
      have hnot : ¬ (k : Int) < (L2.length : Int) := by omega
      have hl139 := (row_cells HQ9.out.2.1).2.2.2.2
      obtain ⟨HQ⟩ : Nonempty (Hid (wr.heap[b13]? = some (.cells #[.int .i64 f0, .int .i64 f1] 30 (0, 0)) ∧ Below b13 w5 wr ∧ ErrR e wr err2 f0 f1)) := ⟨⟨by rw [hbo.block b13 hl139]; exact HQ9.out.2.1, HQ9.out.2.2.1.trans (hbo.mono (Nat.le_of_lt hl139)), HQ9.out.2.2.2.below hbo⟩⟩
      clear hkO hbo HQ9 hl139 hfew hs
      obtain ⟨hx, hhx⟩ : ∃ r, Hid (hasL a x = r) := ⟨_, show _ = _ from rfl⟩
      obtain ⟨HN⟩ : Nonempty (Hid (Calls _ _ _ _ _)) := ⟨rInSet_any a pa ca x wr (HTI.out wr HQ.out.2.1).1.pa (by omega)⟩
      rw [show hasL a x = hx from hhx.out] at HN
      go_wp2_with fail
      refine HN.out.mono ?_
      clear HN
      rintro r w10 ⟨rfl, hb⟩
      have hl := (row_cells HQ.out.1).2.2.2.2
      obtain ⟨HQ1⟩ : Nonempty (Hid (w10.heap[b13]? = some (.cells #[.int .i64 f0, .int .i64 f1] 30 (0, 0)) ∧ Below b13 w5 w10 ∧ ErrR e w10 err2 f0 f1)) := ⟨⟨by rw [hb.block b13 hl]; exact HQ.out.1, HQ.out.2.1.trans (hb.mono (Nat.le_of_lt hl)), HQ.out.2.2.below hb⟩⟩
      clear HQ hb hl
      obtain ⟨x0, x1, -, -, hl13⟩ := row_cells HQ1.out.1
      obtain ⟨HN⟩ : Nonempty (Hid (Calls _ _ _ _ _)) := ⟨faulted_of err2 f0 f1 w10 (HQ1.out.2.2.code (HTI.out w10 HQ1.out.2.1).1.errs)⟩
      go_wp2_with fail
      refine HN.out.mono ?_
      clear HN
      rintro r w11 ⟨rfl, hb⟩
      obtain ⟨HQ⟩ : Nonempty (Hid (w11.heap[b13]? = some (.cells #[.int .i64 f0, .int .i64 f1] 30 (0, 0)) ∧ Below b13 w5 w11)) := ⟨⟨by rw [hb.block b13 hl13]; exact HQ1.out.1, HQ1.out.2.1.trans (hb.mono (Nat.le_of_lt hl13))⟩⟩
      obtain ⟨HN⟩ : Nonempty (Hid (Calls _ _ _ _ _)) := ⟨hasSet_any a qp cp x (e 0) (e 1) (e 2) w11 (HTI.out w11 HQ.out.2).1.pp (HTI.out w11 HQ.out.2).1.env.errs (by omega)⟩
      rw [show hasL a x = hx from hhx.out] at HN
      have hss : (s == s) = true := by simp
      have hxx : (hx == hx) = true := by cases hx <;> rfl
      clear HQ1 hb x0 x1 hl13
      go_wp2_with fail
      refine HN.out.mono ?_
      clear HN
      rintro r w12 ⟨rfl, hb⟩
      have hl := (row_cells HQ.out.1).2.2.2.2
      obtain ⟨HQ1⟩ : Nonempty (Hid (w12.heap[b13]? = some (.cells #[.int .i64 f0, .int .i64 f1] 30 (0, 0)) ∧ Below b13 w5 w12)) := ⟨⟨by rw [hb.block b13 hl]; exact HQ.out.1, HQ.out.2.trans (hb.mono (Nat.le_of_lt hl))⟩⟩
      clear HQ hb hl
      have HQ := HQ1
      clear HQ1
      have hT := HTI.out w12 HQ.out.2
      obtain ⟨HN⟩ : Nonempty (Hid (Calls _ _ _ _ _)) := ⟨opR _ (fun x y => x || y) a b i j HR.out.1 HR.out.2.1 g0 g1 HG qp qq cp cq e w12 (Or_any a b i j HR.out.1 HR.out.2.1 qp qq cp cq (e 0) (e 1) (e 2) w12 hT.1.env hT.1.pp hT.1.pq (by omega) (by omega))⟩
      clear hT
      go_wp2_with fail
      refine HN.out.mono ?_
      clear HN
      rintro r w13 ⟨⟨M0, v, er0, rfl, hR1, hC1⟩, hb⟩
      obtain ⟨q1, c1, hv1, -⟩ := hR1.row
      subst hv1
      have hl := (row_cells HQ.out.1).2.2.2.2
      obtain ⟨HQ1⟩ : Nonempty (Hid (w13.heap[b13]? = some (.cells #[.int .i64 f0, .int .i64 f1] 30 (0, 0)) ∧ Below b13 w5 w13 ∧ Res w13 (.slice q1 M0.length c1) M0 (decide (i = a.length) && decide (j = b.length)) (askB (fun x y => x || y) a b) ∧ ErrR e w13 er0 g0 g1)) := ⟨⟨by rw [hb.block b13 hl]; exact HQ.out.1, HQ.out.2.trans (hb.mono (Nat.le_of_lt hl)), hR1, hC1⟩⟩
      clear HQ hb hl hR1 hC1
      have hT := HTI.out w13 HQ1.out.2.1
      obtain ⟨HN⟩ : Nonempty (Hid (Calls _ _ _ _ _)) := ⟨setOfR a b i j HR.out.1 HR.out.2.1 g0 g1 HG pa pb ca cb 2 w13 hT.1.pa hT.1.pb (by omega) (by omega)⟩
      clear hT
      go_wp2_with fail
      refine HN.out.mono ?_
      clear HN
      rintro r w14 ⟨⟨K0, v, rfl, hR2⟩, hb⟩
      obtain ⟨q2, c2, hv2, -⟩ := hR2.row
      subst hv2
      have hl := (row_cells HQ1.out.1).2.2.2.2
      have hr13 : w14.heap[b13]? = some (.cells #[.int .i64 f0, .int .i64 f1] 30 (0, 0)) := by rw [hb.block b13 hl]; exact HQ1.out.1
      obtain ⟨z0, z1, z2, z3, hl13⟩ := row_cells hr13
      obtain ⟨hsame⟩ : Nonempty (Hid (M0 = K0)) := ⟨res_same HQ1.out.2.2.1 hR2 (fun z => want_or a b z)⟩
      have hb5n := HQ1.out.2.1.trans (hb.mono (Nat.le_of_lt hl))
      have hb5s : Below b13 w5 ((w14.setCell ⟨b13, 0, none⟩ (.int .i64 g0)).setCell ⟨b13, 1, none⟩ (.int .i64 g1)) := (hb5n.setCell (p := ⟨b13, 0, none⟩) (Nat.le_refl _) _).setCell (p := ⟨b13, 1, none⟩) (Nat.le_refl _) _
      have hrs : ((w14.setCell ⟨b13, 0, none⟩ (.int .i64 g0)).setCell ⟨b13, 1, none⟩ (.int .i64 g1)).heap[b13]? = some (.cells #[.int .i64 g0, .int .i64 g1] 30 (0, 0)) := row_store hr13
      have hRa := (HQ1.out.2.2.1.below hb).stored (u := .int .i64 g0) (z := .int .i64 g1) hr13
      have hRb := hR2.stored (u := .int .i64 g0) (z := .int .i64 g1) hr13
      have hCs : ErrR e ((w14.setCell ⟨b13, 0, none⟩ (.int .i64 g0)).setCell ⟨b13, 1, none⟩ (.int .i64 g1)) er0 g0 g1 := (HQ1.out.2.2.2.below hb).stored hr13
      go_upto_region 21 with fail
      obtain ⟨w15, hwn⟩ : ∃ W, Hid (((w14.setCell ⟨b13, 0, none⟩ (.int .i64 g0)).setCell ⟨b13, 1, none⟩ (.int .i64 g1)) = W) := ⟨_, show _ = _ from rfl⟩
      rw [show ((w14.setCell ⟨b13, 0, none⟩ (.int .i64 g0)).setCell ⟨b13, 1, none⟩ (.int .i64 g1)) = w15 from hwn.out] at hb5s hrs hRa hRb hCs ⊢
      obtain ⟨x0, x1, -, -, hl13s⟩ := row_cells hrs
      obtain ⟨HQ⟩ : Nonempty (Hid (w15.heap[b13]? = some (.cells #[.int .i64 g0, .int .i64 g1] 30 (0, 0)) ∧ Below b13 w5 w15 ∧ Res w15 (.slice q1 M0.length c1) M0 (decide (i = a.length) && decide (j = b.length)) (askB (fun x y => x || y) a b) ∧ Res w15 (.slice q2 K0.length c2) K0 (decide (i = a.length) && decide (j = b.length)) (wantG a b 2) ∧ M0 = K0)) := ⟨⟨hrs, hb5s, hRa, hRb, hsame.out⟩⟩
      obtain ⟨HN⟩ : Nonempty (Hid (Calls _ _ _ _ _)) := ⟨faulted_of er0 g0 g1 w15 (hCs.code (HTI.out w15 hb5s).1.errs)⟩
      clear HQ1 hb hl hr13 z0 z1 z2 z3 hl13 hsame hb5n hb5s hrs hRa hRb hCs hwn hR2
      go_wp2_with fail
      refine HN.out.mono ?_
      clear HN
      rintro r w16 ⟨rfl, hb⟩
      obtain ⟨HN⟩ : Nonempty (Hid (Calls _ _ _ _ _)) := ⟨samePrefixes_any M0 K0 q1 q2 c1 c2 w16 (by obtain ⟨q, c, e1, hp⟩ := (HQ.out.2.2.1.below hb).row; cases e1; exact hp) (by obtain ⟨q, c, e1, hp⟩ := (HQ.out.2.2.2.1.below hb).row; cases e1; exact hp) (by have := HQ.out.2.2.1.few; omega)⟩
      rw [decide_eq_true HQ.out.2.2.2.2] at HN
      clear x0 x1
      go_wp2_with fail
      refine HN.out.mono ?_
      clear HN
      rintro r w17 ⟨rfl, hb2⟩
      have hbn := hb.trans (hb2.mono hb.size)
      obtain ⟨HQ1⟩ : Nonempty (Hid (w17.heap[b13]? = some (.cells #[.int .i64 g0, .int .i64 g1] 30 (0, 0)) ∧ Below b13 w5 w17)) := ⟨⟨by rw [hbn.block b13 hl13s]; exact HQ.out.1, HQ.out.2.1.trans (hbn.mono (Nat.le_of_lt hl13s))⟩⟩
      clear HQ hb hb2 hbn hl13s
      have HQ := HQ1
      clear HQ1
      have hT := HTI.out w17 HQ.out.2
      obtain ⟨HN⟩ : Nonempty (Hid (Calls _ _ _ _ _)) := ⟨opR _ (fun x y => x && y) a b i j HR.out.1 HR.out.2.1 g0 g1 HG qp qq cp cq e w17 (And_any a b i j HR.out.1 HR.out.2.1 qp qq cp cq (e 0) (e 1) (e 2) w17 hT.1.env hT.1.pp hT.1.pq (by omega) (by omega))⟩
      clear hT
      go_wp2_with fail
      refine HN.out.mono ?_
      clear HN
      rintro r w18 ⟨⟨M1, v, er1, rfl, hR1, hC1⟩, hb⟩
      obtain ⟨q1, c1, hv1, -⟩ := hR1.row
      subst hv1
      have hl := (row_cells HQ.out.1).2.2.2.2
      obtain ⟨HQ1⟩ : Nonempty (Hid (w18.heap[b13]? = some (.cells #[.int .i64 g0, .int .i64 g1] 30 (0, 0)) ∧ Below b13 w5 w18 ∧ Res w18 (.slice q1 M1.length c1) M1 (decide (i = a.length) && decide (j = b.length)) (askB (fun x y => x && y) a b) ∧ ErrR e w18 er1 g0 g1)) := ⟨⟨by rw [hb.block b13 hl]; exact HQ.out.1, HQ.out.2.trans (hb.mono (Nat.le_of_lt hl)), hR1, hC1⟩⟩
      clear HQ hb hl hR1 hC1
      have hT := HTI.out w18 HQ1.out.2.1
      obtain ⟨HN⟩ : Nonempty (Hid (Calls _ _ _ _ _)) := ⟨setOfR a b i j HR.out.1 HR.out.2.1 g0 g1 HG pa pb ca cb 1 w18 hT.1.pa hT.1.pb (by omega) (by omega)⟩
      clear hT
      go_wp2_with fail
      refine HN.out.mono ?_
      clear HN
      rintro r w19 ⟨⟨K1, v, rfl, hR2⟩, hb⟩
      obtain ⟨q2, c2, hv2, -⟩ := hR2.row
      subst hv2
      have hl := (row_cells HQ1.out.1).2.2.2.2
      have hr13 : w19.heap[b13]? = some (.cells #[.int .i64 g0, .int .i64 g1] 30 (0, 0)) := by rw [hb.block b13 hl]; exact HQ1.out.1
      obtain ⟨z0, z1, z2, z3, hl13⟩ := row_cells hr13
      obtain ⟨hsame⟩ : Nonempty (Hid (M1 = K1)) := ⟨res_same HQ1.out.2.2.1 hR2 (fun z => want_and a b z)⟩
      have hb5n := HQ1.out.2.1.trans (hb.mono (Nat.le_of_lt hl))
      have hb5s : Below b13 w5 ((w19.setCell ⟨b13, 0, none⟩ (.int .i64 g0)).setCell ⟨b13, 1, none⟩ (.int .i64 g1)) := (hb5n.setCell (p := ⟨b13, 0, none⟩) (Nat.le_refl _) _).setCell (p := ⟨b13, 1, none⟩) (Nat.le_refl _) _
      have hrs : ((w19.setCell ⟨b13, 0, none⟩ (.int .i64 g0)).setCell ⟨b13, 1, none⟩ (.int .i64 g1)).heap[b13]? = some (.cells #[.int .i64 g0, .int .i64 g1] 30 (0, 0)) := row_store hr13
      have hRa := (HQ1.out.2.2.1.below hb).stored (u := .int .i64 g0) (z := .int .i64 g1) hr13
      have hRb := hR2.stored (u := .int .i64 g0) (z := .int .i64 g1) hr13
      have hCs : ErrR e ((w19.setCell ⟨b13, 0, none⟩ (.int .i64 g0)).setCell ⟨b13, 1, none⟩ (.int .i64 g1)) er1 g0 g1 := (HQ1.out.2.2.2.below hb).stored hr13
      go_upto_region 25 with fail
      obtain ⟨w20, hwn⟩ : ∃ W, Hid (((w19.setCell ⟨b13, 0, none⟩ (.int .i64 g0)).setCell ⟨b13, 1, none⟩ (.int .i64 g1)) = W) := ⟨_, show _ = _ from rfl⟩
      rw [show ((w19.setCell ⟨b13, 0, none⟩ (.int .i64 g0)).setCell ⟨b13, 1, none⟩ (.int .i64 g1)) = w20 from hwn.out] at hb5s hrs hRa hRb hCs ⊢
      obtain ⟨x0, x1, -, -, hl13s⟩ := row_cells hrs
      obtain ⟨HQ⟩ : Nonempty (Hid (w20.heap[b13]? = some (.cells #[.int .i64 g0, .int .i64 g1] 30 (0, 0)) ∧ Below b13 w5 w20 ∧ Res w20 (.slice q1 M1.length c1) M1 (decide (i = a.length) && decide (j = b.length)) (askB (fun x y => x && y) a b) ∧ Res w20 (.slice q2 K1.length c2) K1 (decide (i = a.length) && decide (j = b.length)) (wantG a b 1) ∧ M1 = K1)) := ⟨⟨hrs, hb5s, hRa, hRb, hsame.out⟩⟩
      obtain ⟨HN⟩ : Nonempty (Hid (Calls _ _ _ _ _)) := ⟨faulted_of er1 g0 g1 w20 (hCs.code (HTI.out w20 hb5s).1.errs)⟩
      clear HQ1 hb hl hr13 z0 z1 z2 z3 hl13 hsame hb5n hb5s hrs hRa hRb hCs hwn hR2
      go_wp2_with fail
      refine HN.out.mono ?_
      clear HN
      rintro r w21 ⟨rfl, hb⟩
      obtain ⟨HN⟩ : Nonempty (Hid (Calls _ _ _ _ _)) := ⟨samePrefixes_any M1 K1 q1 q2 c1 c2 w21 (by obtain ⟨q, c, e1, hp⟩ := (HQ.out.2.2.1.below hb).row; cases e1; exact hp) (by obtain ⟨q, c, e1, hp⟩ := (HQ.out.2.2.2.1.below hb).row; cases e1; exact hp) (by have := HQ.out.2.2.1.few; omega)⟩
      rw [decide_eq_true HQ.out.2.2.2.2] at HN
      clear x0 x1
      go_wp2_with fail
      refine HN.out.mono ?_
      clear HN
      rintro r w22 ⟨rfl, hb2⟩
      have hbn := hb.trans (hb2.mono hb.size)
      obtain ⟨HQ1⟩ : Nonempty (Hid (w22.heap[b13]? = some (.cells #[.int .i64 g0, .int .i64 g1] 30 (0, 0)) ∧ Below b13 w5 w22)) := ⟨⟨by rw [hbn.block b13 hl13s]; exact HQ.out.1, HQ.out.2.1.trans (hbn.mono (Nat.le_of_lt hl13s))⟩⟩
      clear HQ hb hb2 hbn hl13s
      have HQ := HQ1
      clear HQ1
      have hT := HTI.out w22 HQ.out.2
      obtain ⟨HN⟩ : Nonempty (Hid (Calls _ _ _ _ _)) := ⟨opR _ (fun x y => x && !y) a b i j HR.out.1 HR.out.2.1 g0 g1 HG qp qq cp cq e w22 (Not_any a b i j HR.out.1 HR.out.2.1 qp qq cp cq (e 0) (e 1) (e 2) w22 hT.1.env hT.1.pp hT.1.pq (by omega) (by omega))⟩
      clear hT
      go_wp2_with fail
      refine HN.out.mono ?_
      clear HN
      rintro r w23 ⟨⟨M2, v, er2, rfl, hR1, hC1⟩, hb⟩
      obtain ⟨q1, c1, hv1, -⟩ := hR1.row
      subst hv1
      have hl := (row_cells HQ.out.1).2.2.2.2
      obtain ⟨HQ1⟩ : Nonempty (Hid (w23.heap[b13]? = some (.cells #[.int .i64 g0, .int .i64 g1] 30 (0, 0)) ∧ Below b13 w5 w23 ∧ Res w23 (.slice q1 M2.length c1) M2 (decide (i = a.length) && decide (j = b.length)) (askB (fun x y => x && !y) a b) ∧ ErrR e w23 er2 g0 g1)) := ⟨⟨by rw [hb.block b13 hl]; exact HQ.out.1, HQ.out.2.trans (hb.mono (Nat.le_of_lt hl)), hR1, hC1⟩⟩
      clear HQ hb hl hR1 hC1
      have hT := HTI.out w23 HQ1.out.2.1
      obtain ⟨HN⟩ : Nonempty (Hid (Calls _ _ _ _ _)) := ⟨setOfR a b i j HR.out.1 HR.out.2.1 g0 g1 HG pa pb ca cb 3 w23 hT.1.pa hT.1.pb (by omega) (by omega)⟩
      clear hT
      go_wp2_with fail
      refine HN.out.mono ?_
      clear HN
      rintro r w24 ⟨⟨K2, v, rfl, hR2⟩, hb⟩
      obtain ⟨q2, c2, hv2, -⟩ := hR2.row
      subst hv2
      have hl := (row_cells HQ1.out.1).2.2.2.2
      have hr13 : w24.heap[b13]? = some (.cells #[.int .i64 g0, .int .i64 g1] 30 (0, 0)) := by rw [hb.block b13 hl]; exact HQ1.out.1
      obtain ⟨z0, z1, z2, z3, hl13⟩ := row_cells hr13
      obtain ⟨hsame⟩ : Nonempty (Hid (M2 = K2)) := ⟨res_same HQ1.out.2.2.1 hR2 (fun z => want_not a b z)⟩
      have hb5n := HQ1.out.2.1.trans (hb.mono (Nat.le_of_lt hl))
      have hb5s : Below b13 w5 ((w24.setCell ⟨b13, 0, none⟩ (.int .i64 g0)).setCell ⟨b13, 1, none⟩ (.int .i64 g1)) := (hb5n.setCell (p := ⟨b13, 0, none⟩) (Nat.le_refl _) _).setCell (p := ⟨b13, 1, none⟩) (Nat.le_refl _) _
      have hrs : ((w24.setCell ⟨b13, 0, none⟩ (.int .i64 g0)).setCell ⟨b13, 1, none⟩ (.int .i64 g1)).heap[b13]? = some (.cells #[.int .i64 g0, .int .i64 g1] 30 (0, 0)) := row_store hr13
      have hRa := (HQ1.out.2.2.1.below hb).stored (u := .int .i64 g0) (z := .int .i64 g1) hr13
      have hRb := hR2.stored (u := .int .i64 g0) (z := .int .i64 g1) hr13
      have hCs : ErrR e ((w24.setCell ⟨b13, 0, none⟩ (.int .i64 g0)).setCell ⟨b13, 1, none⟩ (.int .i64 g1)) er2 g0 g1 := (HQ1.out.2.2.2.below hb).stored hr13
      go_upto_region 29 with fail
      obtain ⟨w25, hwn⟩ : ∃ W, Hid (((w24.setCell ⟨b13, 0, none⟩ (.int .i64 g0)).setCell ⟨b13, 1, none⟩ (.int .i64 g1)) = W) := ⟨_, show _ = _ from rfl⟩
      rw [show ((w24.setCell ⟨b13, 0, none⟩ (.int .i64 g0)).setCell ⟨b13, 1, none⟩ (.int .i64 g1)) = w25 from hwn.out] at hb5s hrs hRa hRb hCs ⊢
      obtain ⟨x0, x1, -, -, hl13s⟩ := row_cells hrs
      obtain ⟨HQ⟩ : Nonempty (Hid (w25.heap[b13]? = some (.cells #[.int .i64 g0, .int .i64 g1] 30 (0, 0)) ∧ Below b13 w5 w25 ∧ Res w25 (.slice q1 M2.length c1) M2 (decide (i = a.length) && decide (j = b.length)) (askB (fun x y => x && !y) a b) ∧ Res w25 (.slice q2 K2.length c2) K2 (decide (i = a.length) && decide (j = b.length)) (wantG a b 3) ∧ M2 = K2)) := ⟨⟨hrs, hb5s, hRa, hRb, hsame.out⟩⟩
      obtain ⟨HN⟩ : Nonempty (Hid (Calls _ _ _ _ _)) := ⟨faulted_of er2 g0 g1 w25 (hCs.code (HTI.out w25 hb5s).1.errs)⟩
      clear HQ1 hb hl hr13 z0 z1 z2 z3 hl13 hsame hb5n hb5s hrs hRa hRb hCs hwn hR2
      go_wp2_with fail
      refine HN.out.mono ?_
      clear HN
      rintro r w26 ⟨rfl, hb⟩
      obtain ⟨HN⟩ : Nonempty (Hid (Calls _ _ _ _ _)) := ⟨samePrefixes_any M2 K2 q1 q2 c1 c2 w26 (by obtain ⟨q, c, e1, hp⟩ := (HQ.out.2.2.1.below hb).row; cases e1; exact hp) (by obtain ⟨q, c, e1, hp⟩ := (HQ.out.2.2.2.1.below hb).row; cases e1; exact hp) (by have := HQ.out.2.2.1.few; omega)⟩
      rw [decide_eq_true HQ.out.2.2.2.2] at HN
      clear x0 x1
      go_wp2_with fail
      refine HN.out.mono ?_
      clear HN
      rintro r w27 ⟨rfl, hb2⟩
      have hbn := hb.trans (hb2.mono hb.size)
      obtain ⟨HQ1⟩ : Nonempty (Hid (w27.heap[b13]? = some (.cells #[.int .i64 g0, .int .i64 g1] 30 (0, 0)) ∧ Below b13 w5 w27)) := ⟨⟨by rw [hbn.block b13 hl13s]; exact HQ.out.1, HQ.out.2.1.trans (hbn.mono (Nat.le_of_lt hl13s))⟩⟩
      clear HQ hb hb2 hbn hl13s
      have HQ := HQ1
      clear HQ1
      have hT := HTI.out w27 HQ.out.2
      obtain ⟨HN⟩ : Nonempty (Hid (Calls _ _ _ _ _)) := ⟨samePrefixes_any a a qp pa cp ca w27 hT.1.pp hT.1.pa (by omega)⟩
      rw [decide_eq_true rfl] at HN
      go_wp2_with fail
      refine HN.out.mono ?_
      clear HN
      rintro r w28 ⟨rfl, hb⟩
      have hbe := hT.2.trans (hb.mono hT.2.size)
      clear hT hb
      go_wp2
      go_ret
      exact ⟨rfl, hbe⟩
end Go.Proofs.YthehpnhjfnenoaaGreatDoor
