/-
  The law SetNormal: whatever two lists of prefixes, whatever number: true.
-/
import Derived.Test.YthehpnhjfnenoaaDoorNormal0
import Derived.Deep.RegionHeld3
namespace Go.Proofs.YthehpnhjfnenoaaDoor
open Go.RowKit

theorem Holdn.below {w w' : World} {v : Value} {L : List (Int × Int)} {g : Int → Bool} (h : Holdn w v L g) (hb : Below w.heap.size w w') : Holdn w' v L g := by
  obtain ⟨q, c, e, h1, h2, h3⟩ := h.row
  exact ⟨h.np, h.has, ⟨q, c, e, h1, h2, h3.below hb⟩, h.kind, h.typed.below hb⟩
theorem no_fault {w : World} {v : Value} {a : List (Int × Int)} {eb es : Addr} (h : Faults w v a a.length eb es) : False := by
  obtain ⟨h, -⟩ := h; omega
theorem np_same {L M : List (Int × Int)} (hL : NP L) (hM : NP M) (h : ∀ x, inPB L x = inPB M x) : L = M :=
  np_unique L M hL hM (fun x => by rw [← inPB_iff, ← inPB_iff, h])
theorem inPB_append (L M : List (Int × Int)) (x : Int) : inPB (L ++ M) x = (inPB L x || inPB M x) := by simp [inPB]
theorem sumP_append (L M : List (Int × Int)) : sumP (L ++ M) = sumP L + sumP M := by
  induction L with
  | nil => simp [sumP]
  | cons p r ih => simp only [List.cons_append, sumP, ih]; omega
theorem sumP_step (L : List (Int × Int)) (k : Nat) (hk : k < L.length) : sumP (L.take k) + pw L[k].2 = sumP (L.take (k + 1)) := by
  rw [List.take_succ_eq_append_getElem hk, sumP_append]; simp [sumP]
theorem sumP_nonneg (L : List (Int × Int)) : 0 ≤ sumP L := by
  induction L with
  | nil => exact Int.le_refl _
  | cons p r ih => have := pw_pos p.2; simp only [sumP]; omega
theorem sumP_take (L : List (Int × Int)) (k : Nat) : sumP (L.take k) ≤ sumP L := by
  have h := sumP_append (L.take k) (L.drop k)
  rw [List.take_append_drop] at h
  have := sumP_nonneg (L.drop k)
  omega

set_option linter.unusedVariables false in
set_option linter.unusedSimpArgs false in
set_option maxRecDepth 100000 in
set_option maxHeartbeats 16000000 in
theorem normal_any (a b : List (Int × Int)) (x : Int) (pa pb : Option Addr) (ca cb : Nat) (et eb es : Addr) (w : World) (hE : SetEnv w et eb es) (hpa : Pairs w pa a) (hpb : Pairs w pb b) (hka : Kind (.slice pa a.length ca) a.length) :
    Calls Tryd.prog 7 #[.slice pa a.length ca, .slice pb b.length cb, .int .i64 x] w fun e w' => e = .returned (.bool true) ∧ Below w.heap.size w w' := by
  obtain ⟨i0, hi, hz0, hz1, hz2⟩ := info_parts infoPre
  obtain ⟨i, hri⟩ := right_to a
  obtain ⟨j, hrj⟩ := right_to b
  obtain ⟨HST⟩ : Nonempty (Hid (Calls _ _ _ _ _)) := ⟨setted_any et eb es w hE⟩
  obtain ⟨HP0⟩ : Nonempty (Hid (BIn w et eb es a b pa pb ∧ True)) := ⟨⟨⟨hE, hpa, hpb⟩, trivial⟩⟩
  obtain ⟨HRI⟩ : Nonempty (Hid (RightTo a i ∧ RightTo b j ∧ Kind (.slice pa a.length ca) a.length)) := ⟨⟨hri, hrj, hka⟩⟩
  clear hE hpa hpb hri hrj hka
  go_enter Tryd.func7, Tryd.ntmps7
  go_wp2_with fail
  refine HST.out.mono ?_
  rintro e w1 ⟨rfl, hbt⟩
  clear HST
  by_cases hla : 20 < a.length
  · have h1 : (20 : Int) < (a.length : Int) := by omega
    go_wp2
    go_ret
    exact ⟨rfl, hbt⟩
  by_cases hlb : 20 < b.length
  · have h1 : (20 : Int) < (b.length : Int) := by omega
    have h2 : ¬ (20 : Int) < (a.length : Int) := by omega
    go_wp2
    go_ret
    exact ⟨rfl, hbt⟩
  have h1 : ¬ (20 : Int) < (a.length : Int) := by omega
  have h2 : ¬ (20 : Int) < (b.length : Int) := by omega
  obtain ⟨HP⟩ : Nonempty (Hid (BIn w1 et eb es a b pa pb ∧ True)) := ⟨⟨HP0.out.1.below hbt, trivial⟩⟩
  clear HP0
  obtain ⟨HN⟩ : Nonempty (Hid (Calls _ _ _ _ _)) := ⟨ownPrefixes_any a pa ca w1 HP.out.1.pa HRI.out.2.2 (by omega)⟩
  go_wp2_with fail
  refine HN.out.mono ?_
  clear HN
  rintro e w2 ⟨⟨v0, rfl, hown0⟩, hb⟩
  obtain ⟨q0, c0, rfl, hp0⟩ := own_get hown0
  have hb2 := hbt.trans (hb.mono hbt.size)
  obtain ⟨HN⟩ : Nonempty (Hid (Calls _ _ _ _ _)) := ⟨norm_any a i HRI.out.1 q0 c0 et eb es w2 (HP.out.1.below hb).env hp0 (by omega)⟩
  obtain ⟨HP2⟩ : Nonempty (Hid (BIn w2 et eb es a b pa pb ∧ True)) := ⟨⟨HP.out.1.below hb, trivial⟩⟩
  clear HP hown0 hp0 hbt hb
  have hbt := hb2
  have HP := HP2
  clear hb2 HP2
  go_wp2_with fail
  refine HN.out.mono ?_
  clear HN
  rintro e w3 ⟨⟨hia, LL, v, rfl, hG⟩ | ⟨v, rfl, hF⟩, hb⟩
  rotate_left
  · obtain ⟨-, bb, rfl, -⟩ := hF
    have hb3 := hbt.trans (hb.mono hbt.size)
    clear hbt hb HP
    go_wp2
    go_ret
    exact ⟨rfl, hb3⟩
  obtain ⟨Ra⟩ : Nonempty (Hid (RightTo a a.length)) := ⟨by have := HRI.out.1; rw [hia] at this; exact this⟩
  clear hia
  obtain ⟨qL, cL, rfl, hpN, hs1, hs2, hs3, hs4⟩ := hG.get'
  obtain ⟨HSL⟩ : Nonempty (Hid (NP LL ∧ (∀ x, inPB LL x = inPB a x) ∧ LL.length ≤ 4294967296 ∧ Kind (.slice qL LL.length cL) LL.length)) := ⟨⟨hs1, hs2, hs3, hs4⟩⟩
  clear hG hs1 hs2 hs3 hs4
  obtain ⟨HP'⟩ : Nonempty (Hid (BIn w3 et eb es a b pa pb ∧ Pairs w3 qL LL ∧ True)) := ⟨⟨HP.out.1.below hb, hpN, trivial⟩⟩
  have hbt' := hbt.trans (hb.mono hbt.size)
  clear HP hb hbt hpN
  have HP := HP'
  have hbt := hbt'
  clear HP' hbt'
  obtain ⟨hx, hhx⟩ : ∃ r, Hid (inPB a x = r) := ⟨_, show _ = _ from rfl⟩
  obtain ⟨HHa⟩ : Nonempty (Hid (hasL a x = hx)) := ⟨by rw [Hid, hasL_right Ra.out.rights]; exact hhx.out⟩
  obtain ⟨HHL⟩ : Nonempty (Hid (hasL LL x = hx)) := ⟨by rw [Hid, hasL_right HSL.out.1.right, HSL.out.2.1]; exact hhx.out⟩
  obtain ⟨HN⟩ : Nonempty (Hid (Calls _ _ _ _ _)) := ⟨hasSet_any LL qL cL x et eb es w3 HP.out.2.1 HP.out.1.env.errs (by have := HSL.out.2.2.1; omega)⟩
  rw [show hasL LL x = hx from HHL.out] at HN
  go_wp2_with fail
  refine HN.out.mono ?_
  clear HN
  rintro e w4 ⟨rfl, hb⟩
  obtain ⟨HP'⟩ : Nonempty (Hid (BIn w4 et eb es a b pa pb ∧ Pairs w4 qL LL ∧ True)) := ⟨⟨HP.out.1.below hb, HP.out.2.1.below hb, trivial⟩⟩
  have hbt' := hbt.trans (hb.mono hbt.size)
  clear HP hb hbt
  have HP := HP'
  have hbt := hbt'
  clear HP' hbt'
  obtain ⟨HN⟩ : Nonempty (Hid (Calls _ _ _ _ _)) := ⟨hasSet_any a pa ca x et eb es w4 HP.out.1.pa HP.out.1.env.errs (by omega)⟩
  rw [show hasL a x = hx from HHa.out] at HN
  go_wp2_with fail
  refine HN.out.mono ?_
  clear HN
  rintro e w5 ⟨rfl, hb⟩
  obtain ⟨HP'⟩ : Nonempty (Hid (BIn w5 et eb es a b pa pb ∧ Pairs w5 qL LL ∧ True)) := ⟨⟨HP.out.1.below hb, HP.out.2.1.below hb, trivial⟩⟩
  have hbt' := hbt.trans (hb.mono hbt.size)
  clear HP hb hbt
  have HP := HP'
  have hbt := hbt'
  clear HP' hbt'
  have hxx : (hx != hx) = false := by cases hx <;> rfl
  have hxx2 : (hx == hx) = true := by cases hx <;> rfl
  go_wp2
  go_loopw [10] (fun z wr => ∃ m : Nat, z = .int .i64 m ∧ m ≤ LL.length ∧ Below w5.heap.size w5 wr) (fun z _ => LL.length - (intOf z).toNat)
  case atStart => exact ⟨0, rfl, Nat.zero_le _, Below.refl _ _⟩
  case round =>
    obtain ⟨m, rfl, hm, hbo⟩ := hrel
    have hll := HSL.out.2.2.1
    by_cases hml : m < LL.length
    · have hml' : (m : Int) < (LL.length : Int) := by omega
      go_wp2
      go_loopw [11] (fun z wr => ∃ k : Nat, z = .int .i64 k ∧ k ≤ m ∧ Below w5.heap.size w5 wr) (fun z _ => m - (intOf z).toNat)
      case atStart => exact ⟨0, rfl, Nat.zero_le _, hbo⟩
      case round =>
        clear hbo
        obtain ⟨k, rfl, hk, hbo⟩ := hrel
        by_cases hkm : k < m
        · have hkm' : (k : Int) < (m : Int) := by omega
          obtain ⟨bl, ol, hql, m0, m1⟩ := HP.out.2.1 m hml
          subst hql
          obtain ⟨bl', ol', hql', k0, k1⟩ := HP.out.2.1 k (by omega)
          simp only [Option.some.injEq, Addr.mk.injEq, and_true] at hql'
          obtain ⟨rfl, rfl⟩ := hql'
          have hnp := np_pair HSL.out.1 k m hkm hml
          have hrm := HSL.out.1.right _ (List.getElem_mem hml)
          have hrk := HSL.out.1.right _ (List.getElem_mem (show k < LL.length by omega))
          have hpos := np_pos hrk hrm hnp.1
          have hnh := not_halves hrk hrm hnp.1 hnp.2 hpos.1 hpos.2
          have in1 := not_in_low hrk hrm hnp.1
          have in2 := not_in_high hrk hrm hnp.1
          have ls := less_low hrk hrm hnp.1
          obtain ⟨P, hPm⟩ : ∃ P, Hid (LL[m] = P) := ⟨_, show _ = _ from rfl⟩
          obtain ⟨R, hRk⟩ : ∃ R, Hid (LL[k] = R) := ⟨_, show _ = _ from rfl⟩
          rw [show LL[m] = P from hPm.out] at m0 m1 hrm hpos hnh in1 in2 ls
          rw [show LL[k] = R from hRk.out] at k0 k1 hrk hpos hnh in1 in2 ls
          clear hnp
          obtain ⟨mA, mN⟩ := P
          obtain ⟨kA, kN⟩ := R
          simp only at m0 m1 k0 k1 hrm hrk hpos in1 in2 ls
          obtain ⟨uM, huM⟩ : ∃ c, Hid (upA (mA, mN) = c) := ⟨_, show _ = _ from rfl⟩
          obtain ⟨uK, huK⟩ : ∃ c, Hid (upA (kA, kN) = c) := ⟨_, show _ = _ from rfl⟩
          obtain ⟨nM, hnM⟩ : ∃ c, Hid (mN - 1 = c) := ⟨_, show _ = _ from rfl⟩
          obtain ⟨nK, hnK⟩ : ∃ c, Hid (kN - 1 = c) := ⟨_, show _ = _ from rfl⟩
          rw [show upA (mA, mN) = uM from huM.out, show upA (kA, kN) = uK from huK.out] at hnh
          simp only at hnh
          rw [show mN - 1 = nM from hnM.out, show kN - 1 = nK from hnK.out] at hnh
          obtain ⟨HKC⟩ : Nonempty (Hid (∀ w', Below w5.heap.size w5 w' → w'.cell? ⟨bl, ol + m * 2, none⟩ = some (.int .i64 mA) ∧ w'.cell? ⟨bl, ol + m * 2 + 1, none⟩ = some (.int .i64 mN) ∧ w'.cell? ⟨bl, ol + k * 2, none⟩ = some (.int .i64 kA) ∧ w'.cell? ⟨bl, ol + k * 2 + 1, none⟩ = some (.int .i64 kN) ∧ IpErrs w' et eb es)) := ⟨fun w' h => ⟨cell_kept h m0, cell_kept h m1, cell_kept h k0, cell_kept h k1, (HP.out.1.below h).env.errs⟩⟩
          obtain ⟨HB⟩ : Nonempty (Hid (inB mA mN kA kN = false ∧ inB kA kN mA mN = false ∧ lessB kA kN mA mN = true)) := ⟨⟨in1, in2, ls⟩⟩
          clear m0 m1 k0 k1 in1 in2 ls
          have cw := HKC.out wr hbo
          obtain ⟨d0, d1, -, -, -⟩ := cw
          have hblw : bl < wr.heap.size := cell_lt' d0
          obtain ⟨HN⟩ : Nonempty (Hid (Calls _ _ _ _ _)) := ⟨upAny (mA, mN) uM nM huM hnM et eb es wr (HKC.out wr hbo).2.2.2.2 hrm hpos.2⟩
          go_wp2_with fail
          refine HN.out.mono ?_
          clear HN
          rintro e wu ⟨rfl, hbu⟩
          have hbo2 := hbo.trans (hbu.mono hbo.size)
          have hbo3 := hbo2.alloc hbo2.size (.cells #[.int .i64 uM, .int .i64 nM] 36)
          obtain ⟨-, -, d2, d3, -⟩ := HKC.out _ hbo3
          obtain ⟨HN⟩ : Nonempty (Hid (Calls _ _ _ _ _)) := ⟨upAny (kA, kN) uK nK huK hnK et eb es _ (HKC.out _ hbo3).2.2.2.2 hrk hpos.1⟩
          obtain ⟨b12, hb12⟩ : ∃ b, Hid (wu.heap.size = b) := ⟨_, show _ = _ from rfl⟩
          obtain ⟨w12, hw12⟩ : ∃ W, Hid (wu.alloc (.cells #[.int .i64 uM, .int .i64 nM] 36) = W) := ⟨_, show _ = _ from rfl⟩
          obtain ⟨HX12⟩ : Nonempty (Hid (w12.heap[b12]? = some (.cells #[.int .i64 uM, .int .i64 nM] 36 (0, 0)))) := ⟨by rw [Hid, ← show wu.heap.size = b12 from hb12.out, ← show wu.alloc (.cells #[.int .i64 uM, .int .i64 nM] 36) = w12 from hw12.out]; exact Go.heap_alloc_new wu _⟩
          rw [show wu.alloc (.cells #[.int .i64 uM, .int .i64 nM] 36) = w12 from hw12.out] at hbo3 d2 d3 HN
          clear d0 d1 hbo hbu hbo2
          have hblw2 : bl < w12.heap.size := cell_lt' d2
          obtain ⟨HIN1⟩ : Nonempty (Hid (∀ W : World, IpErrs W et eb es → Calls Tryd.prog 19 #[.agg #[.int .i64 mA, .int .i64 mN], .agg #[.int .i64 kA, .int .i64 kN]] W fun r w' => r = .returned (.bool false) ∧ Below W.heap.size W w')) := ⟨fun W hW => by rw [← HB.out.1]; exact in_any mA mN kA kN et eb es W hW⟩
          obtain ⟨HIN2⟩ : Nonempty (Hid (∀ W : World, IpErrs W et eb es → Calls Tryd.prog 19 #[.agg #[.int .i64 kA, .int .i64 kN], .agg #[.int .i64 mA, .int .i64 mN]] W fun r w' => r = .returned (.bool false) ∧ Below W.heap.size W w')) := ⟨fun W hW => by rw [← HB.out.2.1]; exact in_any kA kN mA mN et eb es W hW⟩
          obtain ⟨HLS⟩ : Nonempty (Hid (∀ W : World, IpErrs W et eb es → Calls Tryd.prog 16 #[.agg #[.int .i64 kA, .int .i64 kN], .agg #[.int .i64 mA, .int .i64 mN]] W fun r w' => r = .returned (.bool true) ∧ Below W.heap.size W w')) := ⟨fun W hW => by rw [← HB.out.2.2]; exact less_any kA kN mA mN et eb es W hW⟩
          go_upto_region 16 with fail
          rw [show wu.alloc (.cells #[.int .i64 uM, .int .i64 nM] 36) = w12 from hw12.out, show wu.heap.size = b12 from hb12.out]
          clear hw12 hb12
          go_wp2_with fail
          refine HN.out.mono ?_
          clear HN
          rintro e wv ⟨rfl, hbv⟩
          have hbo4 := hbo3.trans (hbv.mono hbo3.size)
          have hbo5 := hbo4.alloc hbo4.size (.cells #[.int .i64 uK, .int .i64 nK] 36)
          have hX12 : (wv.alloc (.cells #[.int .i64 uK, .int .i64 nK] 36)).heap[b12]? = some (.cells #[.int .i64 uM, .int .i64 nM] 36 (0, 0)) := by
            have hl12 := (row_cells HX12.out).2.2.2.2
            rw [Below.heap_alloc _ _ _ (Nat.lt_of_lt_of_le hl12 hbv.size), hbv.block b12 hl12]; exact HX12.out
          have hX14 : (wv.alloc (.cells #[.int .i64 uK, .int .i64 nK] 36)).heap[wv.heap.size]? = some (.cells #[.int .i64 uK, .int .i64 nK] 36 (0, 0)) := Go.heap_alloc_new wv _
          obtain ⟨x0, x1, -, -, hl12⟩ := row_cells hX12
          obtain ⟨y0, y1, -, -, hl14⟩ := row_cells hX14
          obtain ⟨b14, hb14⟩ : ∃ b, Hid (wv.heap.size = b) := ⟨_, show _ = _ from rfl⟩
          obtain ⟨w14, hw14⟩ : ∃ W, Hid (wv.alloc (.cells #[.int .i64 uK, .int .i64 nK] 36) = W) := ⟨_, show _ = _ from rfl⟩
          go_upto_region 17 with fail
          rw [show wv.alloc (.cells #[.int .i64 uK, .int .i64 nK] 36) = w14 from hw14.out] at hbo5 x0 x1 y0 y1 hl12 hl14 ⊢
          rw [show wv.heap.size = b14 from hb14.out] at y0 y1 hl14 ⊢
          obtain ⟨c0, c1, c2, c3, c4⟩ := HKC.out _ hbo5
          have hge1 : (0 : Int) ≤ (m : Int) := by omega
          have hge2 : (0 : Int) ≤ (k : Int) := by omega
          have hkl' : (k : Int) < (LL.length : Int) := by omega
          clear hX12 hX14 hbv hbo4 hbo3 hw14 hb14 d2 d3 HX12 hblw hblw2
          by_cases hu : uM = uK
          · subst hu
            have hn : ¬ nM = nK := fun e => hnh ⟨rfl, e⟩
            have hn' : (nM == nK) = false := by rw [beq_eq_false_iff_ne]; exact hn
            go_upto_region 18 with fail
            clear x0 x1 y0 y1
            have hbc0 := hbo5.drew
            refine wp_region_held_drew (S := (fun w' => w'.cell? ⟨bl, ol + m * 2, none⟩ = some (.int .i64 mA) ∧ w'.cell? ⟨bl, ol + m * 2 + 1, none⟩ = some (.int .i64 mN) ∧ w'.cell? ⟨bl, ol + k * 2, none⟩ = some (.int .i64 kA) ∧ w'.cell? ⟨bl, ol + k * 2 + 1, none⟩ = some (.int .i64 kN) ∧ IpErrs w' et eb es)) (by kernel_rfl) ?_ (fun hHeld => ?_)
            · exact HKC.out _ hbc0
            refine wpAnyH_take (i := 0) (v := ?_) rfl (by kernel_rfl) (by kernel_rfl) (by kernel_rfl) (fun _ _ _ h => h) (Or.inl ⟨by rfl, ?_⟩) (by assumption) ?_
            rotate_left
            · (intro w hSw; (try dsimp only at hSw); go_simp; try (with_reducible rfl))
            try simp only [Act.put, List.setIfInBounds_toArray, List.set_cons_zero, List.set_cons_succ, List.getElem_toArray, List.getElem_cons_zero, List.getElem_cons_succ]
            refine wpAnyH_take (i := 1) (v := ?_) rfl (by kernel_rfl) (by kernel_rfl) (by kernel_rfl) (fun _ _ _ h => h) (Or.inl ⟨by rfl, ?_⟩) (by assumption) ?_
            rotate_left
            · (intro w hSw; (try dsimp only at hSw); go_simp; try (with_reducible rfl))
            try simp only [Act.put, List.setIfInBounds_toArray, List.set_cons_zero, List.set_cons_succ, List.getElem_toArray, List.getElem_cons_zero, List.getElem_cons_succ]
            refine wpAnyH_take (i := 2) (v := ?_) rfl (by kernel_rfl) (by kernel_rfl) (by kernel_rfl) (fun _ _ _ h => h) (Or.inl ⟨by rfl, ?_⟩) (by assumption) ?_
            rotate_left
            · (intro w hSw; (try dsimp only at hSw); go_simp; try (with_reducible rfl))
            try simp only [Act.put, List.setIfInBounds_toArray, List.set_cons_zero, List.set_cons_succ, List.getElem_toArray, List.getElem_cons_zero, List.getElem_cons_succ]
            refine wpAnyH_take (i := 3) (v := ?_) rfl (by kernel_rfl) (by kernel_rfl) (by kernel_rfl) (fun _ _ _ h => h) (Or.inl ⟨by rfl, ?_⟩) (by assumption) ?_
            rotate_left
            · (intro w hSw; (try dsimp only at hSw); go_simp; try (with_reducible rfl))
            try simp only [Act.put, List.setIfInBounds_toArray, List.set_cons_zero, List.set_cons_succ, List.getElem_toArray, List.getElem_cons_zero, List.getElem_cons_succ]
            refine wpAnyH_take (i := 4) (v := ?_) rfl (by kernel_rfl) (by kernel_rfl) (by kernel_rfl) (fun _ _ _ h => h) (Or.inl ⟨by rfl, ?_⟩) (by assumption) ?_
            rotate_left
            · (intro w hSw; (try dsimp only at hSw); go_simp; try (with_reducible rfl))
            try simp only [Act.put, List.setIfInBounds_toArray, List.set_cons_zero, List.set_cons_succ, List.getElem_toArray, List.getElem_cons_zero, List.getElem_cons_succ]
            refine wpAnyH_take (i := 5) (v := ?_) rfl (by kernel_rfl) (by kernel_rfl) (by kernel_rfl) (fun _ _ _ h => h) (Or.inl ⟨by rfl, ?_⟩) (by assumption) ?_
            rotate_left
            · (intro w hSw; (try dsimp only at hSw); go_simp; try (with_reducible rfl))
            try simp only [Act.put, List.setIfInBounds_toArray, List.set_cons_zero, List.set_cons_succ, List.getElem_toArray, List.getElem_cons_zero, List.getElem_cons_succ]
            refine wpAnyH_take (i := 6) (v := ?_) rfl (by kernel_rfl) (by kernel_rfl) (by kernel_rfl) (fun _ _ _ h => h) (Or.inl ⟨by rfl, ?_⟩) (by assumption) ?_
            rotate_left
            · (intro w hSw; (try dsimp only at hSw); go_simp; try (with_reducible rfl))
            try simp only [Act.put, List.setIfInBounds_toArray, List.set_cons_zero, List.set_cons_succ, List.getElem_toArray, List.getElem_cons_zero, List.getElem_cons_succ]
            refine wpAnyH_take (i := 7) (v := ?_) rfl (by kernel_rfl) (by kernel_rfl) (by kernel_rfl) (fun _ _ _ h => h) (Or.inl ⟨by rfl, ?_⟩) (by assumption) ?_
            rotate_left
            · (intro w hSw; (try dsimp only at hSw); go_simp; try (with_reducible rfl))
            try simp only [Act.put, List.setIfInBounds_toArray, List.set_cons_zero, List.set_cons_succ, List.getElem_toArray, List.getElem_cons_zero, List.getElem_cons_succ]
            refine wpAnyH_take (i := 8) (v := ?_) rfl (by kernel_rfl) (by kernel_rfl) (by kernel_rfl) (fun _ _ _ h => h) (Or.inl ⟨by rfl, ?_⟩) (by assumption) ?_
            rotate_left
            · (intro w hSw; (try dsimp only at hSw); go_simp; try (with_reducible rfl))
            try simp only [Act.put, List.setIfInBounds_toArray, List.set_cons_zero, List.set_cons_succ, List.getElem_toArray, List.getElem_cons_zero, List.getElem_cons_succ]
            refine wpAnyH_take (i := 9) (v := ?_) rfl (by kernel_rfl) (by kernel_rfl) (by kernel_rfl) (fun _ _ _ h => h) (Or.inl ⟨by rfl, ?_⟩) (by assumption) ?_
            rotate_left
            · (intro w hSw; (try dsimp only at hSw); go_simp; try (with_reducible rfl))
            try simp only [Act.put, List.setIfInBounds_toArray, List.set_cons_zero, List.set_cons_succ, List.getElem_toArray, List.getElem_cons_zero, List.getElem_cons_succ]
            refine wpAnyH_ready (rs := [10]) (by kernel_rfl) (by simp) ?_
            refine AllReadyH.cons rfl (fun K hK => ?_) AllReadyH.nil
            go_simp
            refine (HIN1.out _ hHeld.2.2.2.2).mono ?_
            rintro e wn1 ⟨rfl, hbn⟩
            have hbc1 := hbc0.trans (hbn.mono hbc0.size)
            have hKeep := HKC.out _ hbc1
            clear hbn hHeld
            refine hK.out _ _ ?_ (fun hHeld => ?_)
            · exact hKeep
            clear hK K
            try simp only [Act.put, List.setIfInBounds_toArray, List.set_cons_zero, List.set_cons_succ, List.getElem_toArray, List.getElem_cons_zero, List.getElem_cons_succ]
            refine wpAnyH_take (i := 11) (v := ?_) rfl (by kernel_rfl) (by kernel_rfl) (by kernel_rfl) (fun _ _ _ h => h) (Or.inl ⟨by rfl, ?_⟩) (by assumption) ?_
            rotate_left
            · (intro w hSw; (try dsimp only at hSw); go_simp; try (with_reducible rfl))
            try simp only [Act.put, List.setIfInBounds_toArray, List.set_cons_zero, List.set_cons_succ, List.getElem_toArray, List.getElem_cons_zero, List.getElem_cons_succ]
            refine wpAnyH_take (i := 12) (v := ?_) rfl (by kernel_rfl) (by kernel_rfl) (by kernel_rfl) (fun _ _ _ h => h) (Or.inl ⟨by rfl, ?_⟩) (by assumption) ?_
            rotate_left
            · (intro w hSw; (try dsimp only at hSw); go_simp; try (with_reducible rfl))
            try simp only [Act.put, List.setIfInBounds_toArray, List.set_cons_zero, List.set_cons_succ, List.getElem_toArray, List.getElem_cons_zero, List.getElem_cons_succ]
            refine wpAnyH_take (i := 13) (v := ?_) rfl (by kernel_rfl) (by kernel_rfl) (by kernel_rfl) (fun _ _ _ h => h) (Or.inl ⟨by rfl, ?_⟩) (by assumption) ?_
            rotate_left
            · (intro w hSw; (try dsimp only at hSw); go_simp; try (with_reducible rfl))
            try simp only [Act.put, List.setIfInBounds_toArray, List.set_cons_zero, List.set_cons_succ, List.getElem_toArray, List.getElem_cons_zero, List.getElem_cons_succ]
            refine wpAnyH_take (i := 14) (v := ?_) rfl (by kernel_rfl) (by kernel_rfl) (by kernel_rfl) (fun _ _ _ h => h) (Or.inl ⟨by rfl, ?_⟩) (by assumption) ?_
            rotate_left
            · (intro w hSw; (try dsimp only at hSw); go_simp; try (with_reducible rfl))
            try simp only [Act.put, List.setIfInBounds_toArray, List.set_cons_zero, List.set_cons_succ, List.getElem_toArray, List.getElem_cons_zero, List.getElem_cons_succ]
            refine wpAnyH_take (i := 15) (v := ?_) rfl (by kernel_rfl) (by kernel_rfl) (by kernel_rfl) (fun _ _ _ h => h) (Or.inl ⟨by rfl, ?_⟩) (by assumption) ?_
            rotate_left
            · (intro w hSw; (try dsimp only at hSw); go_simp; try (with_reducible rfl))
            try simp only [Act.put, List.setIfInBounds_toArray, List.set_cons_zero, List.set_cons_succ, List.getElem_toArray, List.getElem_cons_zero, List.getElem_cons_succ]
            refine wpAnyH_take (i := 16) (v := ?_) rfl (by kernel_rfl) (by kernel_rfl) (by kernel_rfl) (fun _ _ _ h => h) (Or.inl ⟨by rfl, ?_⟩) (by assumption) ?_
            rotate_left
            · (intro w hSw; (try dsimp only at hSw); go_simp; try (with_reducible rfl))
            try simp only [Act.put, List.setIfInBounds_toArray, List.set_cons_zero, List.set_cons_succ, List.getElem_toArray, List.getElem_cons_zero, List.getElem_cons_succ]
            refine wpAnyH_take (i := 17) (v := ?_) rfl (by kernel_rfl) (by kernel_rfl) (by kernel_rfl) (fun _ _ _ h => h) (Or.inl ⟨by rfl, ?_⟩) (by assumption) ?_
            rotate_left
            · (intro w hSw; (try dsimp only at hSw); go_simp; try (with_reducible rfl))
            try simp only [Act.put, List.setIfInBounds_toArray, List.set_cons_zero, List.set_cons_succ, List.getElem_toArray, List.getElem_cons_zero, List.getElem_cons_succ]
            refine wpAnyH_take (i := 18) (v := ?_) rfl (by kernel_rfl) (by kernel_rfl) (by kernel_rfl) (fun _ _ _ h => h) (Or.inl ⟨by rfl, ?_⟩) (by assumption) ?_
            rotate_left
            · (intro w hSw; (try dsimp only at hSw); go_simp; try (with_reducible rfl))
            try simp only [Act.put, List.setIfInBounds_toArray, List.set_cons_zero, List.set_cons_succ, List.getElem_toArray, List.getElem_cons_zero, List.getElem_cons_succ]
            refine wpAnyH_take (i := 19) (v := ?_) rfl (by kernel_rfl) (by kernel_rfl) (by kernel_rfl) (fun _ _ _ h => h) (Or.inl ⟨by rfl, ?_⟩) (by assumption) ?_
            rotate_left
            · (intro w hSw; (try dsimp only at hSw); go_simp; try (with_reducible rfl))
            try simp only [Act.put, List.setIfInBounds_toArray, List.set_cons_zero, List.set_cons_succ, List.getElem_toArray, List.getElem_cons_zero, List.getElem_cons_succ]
            refine wpAnyH_take (i := 20) (v := ?_) rfl (by kernel_rfl) (by kernel_rfl) (by kernel_rfl) (fun _ _ _ h => h) (Or.inl ⟨by rfl, ?_⟩) (by assumption) ?_
            rotate_left
            · (intro w hSw; (try dsimp only at hSw); go_simp; try (with_reducible rfl))
            try simp only [Act.put, List.setIfInBounds_toArray, List.set_cons_zero, List.set_cons_succ, List.getElem_toArray, List.getElem_cons_zero, List.getElem_cons_succ]
            refine wpAnyH_ready (rs := [21]) (by kernel_rfl) (by simp) ?_
            refine AllReadyH.cons rfl (fun K hK => ?_) AllReadyH.nil
            go_simp
            refine (HIN2.out _ hHeld.2.2.2.2).mono ?_
            rintro e wn2 ⟨rfl, hbn⟩
            have hbc2 := hbc1.trans (hbn.mono hbc1.size)
            have hKeep := HKC.out _ hbc2
            clear hbn hHeld
            refine hK.out _ _ ?_ (fun hHeld => ?_)
            · exact hKeep
            clear hK K
            try simp only [Act.put, List.setIfInBounds_toArray, List.set_cons_zero, List.set_cons_succ, List.getElem_toArray, List.getElem_cons_zero, List.getElem_cons_succ]
            refine wpAnyH_take (i := 22) (v := ?_) rfl (by kernel_rfl) (by kernel_rfl) (by kernel_rfl) (fun _ _ _ h => h) (Or.inl ⟨by rfl, ?_⟩) (by assumption) ?_
            rotate_left
            · (intro w hSw; (try dsimp only at hSw); go_simp; try (with_reducible rfl))
            try simp only [Act.put, List.setIfInBounds_toArray, List.set_cons_zero, List.set_cons_succ, List.getElem_toArray, List.getElem_cons_zero, List.getElem_cons_succ]
            refine wpAnyH_take (i := 23) (v := ?_) rfl (by kernel_rfl) (by kernel_rfl) (by kernel_rfl) (fun _ _ _ h => h) (Or.inl ⟨by rfl, ?_⟩) (by assumption) ?_
            rotate_left
            · (intro w hSw; (try dsimp only at hSw); go_simp; try (with_reducible rfl))
            try simp only [Act.put, List.setIfInBounds_toArray, List.set_cons_zero, List.set_cons_succ, List.getElem_toArray, List.getElem_cons_zero, List.getElem_cons_succ]
            refine wpAnyH_take (i := 24) (v := ?_) rfl (by kernel_rfl) (by kernel_rfl) (by kernel_rfl) (fun _ _ _ h => h) (Or.inl ⟨by rfl, ?_⟩) (by assumption) ?_
            rotate_left
            · (intro w hSw; (try dsimp only at hSw); go_simp; try (with_reducible rfl))
            try simp only [Act.put, List.setIfInBounds_toArray, List.set_cons_zero, List.set_cons_succ, List.getElem_toArray, List.getElem_cons_zero, List.getElem_cons_succ]
            refine wpAnyH_take (i := 25) (v := ?_) rfl (by kernel_rfl) (by kernel_rfl) (by kernel_rfl) (fun _ _ _ h => h) (Or.inl ⟨by rfl, ?_⟩) (by assumption) ?_
            rotate_left
            · (intro w hSw; (try dsimp only at hSw); go_simp; try (with_reducible rfl))
            try simp only [Act.put, List.setIfInBounds_toArray, List.set_cons_zero, List.set_cons_succ, List.getElem_toArray, List.getElem_cons_zero, List.getElem_cons_succ]
            refine wpAnyH_take (i := 26) (v := ?_) rfl (by kernel_rfl) (by kernel_rfl) (by kernel_rfl) (fun _ _ _ h => h) (Or.inl ⟨by rfl, ?_⟩) (by assumption) ?_
            rotate_left
            · (intro w hSw; (try dsimp only at hSw); go_simp; try (with_reducible rfl))
            try simp only [Act.put, List.setIfInBounds_toArray, List.set_cons_zero, List.set_cons_succ, List.getElem_toArray, List.getElem_cons_zero, List.getElem_cons_succ]
            refine wpAnyH_take (i := 27) (v := ?_) rfl (by kernel_rfl) (by kernel_rfl) (by kernel_rfl) (fun _ _ _ h => h) (Or.inl ⟨by rfl, ?_⟩) (by assumption) ?_
            rotate_left
            · (intro w hSw; (try dsimp only at hSw); go_simp; try (with_reducible rfl))
            try simp only [Act.put, List.setIfInBounds_toArray, List.set_cons_zero, List.set_cons_succ, List.getElem_toArray, List.getElem_cons_zero, List.getElem_cons_succ]
            refine wpAnyH_take (i := 28) (v := ?_) rfl (by kernel_rfl) (by kernel_rfl) (by kernel_rfl) (fun _ _ _ h => h) (Or.inl ⟨by rfl, ?_⟩) (by assumption) ?_
            rotate_left
            · (intro w hSw; (try dsimp only at hSw); go_simp; try (with_reducible rfl))
            try simp only [Act.put, List.setIfInBounds_toArray, List.set_cons_zero, List.set_cons_succ, List.getElem_toArray, List.getElem_cons_zero, List.getElem_cons_succ]
            refine wpAnyH_take (i := 29) (v := ?_) rfl (by kernel_rfl) (by kernel_rfl) (by kernel_rfl) (fun _ _ _ h => h) (Or.inl ⟨by rfl, ?_⟩) (by assumption) ?_
            rotate_left
            · (intro w hSw; (try dsimp only at hSw); go_simp; try (with_reducible rfl))
            try simp only [Act.put, List.setIfInBounds_toArray, List.set_cons_zero, List.set_cons_succ, List.getElem_toArray, List.getElem_cons_zero, List.getElem_cons_succ]
            refine wpAnyH_take (i := 30) (v := ?_) rfl (by kernel_rfl) (by kernel_rfl) (by kernel_rfl) (fun _ _ _ h => h) (Or.inl ⟨by rfl, ?_⟩) (by assumption) ?_
            rotate_left
            · (intro w hSw; (try dsimp only at hSw); go_simp; try (with_reducible rfl))
            try simp only [Act.put, List.setIfInBounds_toArray, List.set_cons_zero, List.set_cons_succ, List.getElem_toArray, List.getElem_cons_zero, List.getElem_cons_succ]
            refine wpAnyH_take (i := 31) (v := ?_) rfl (by kernel_rfl) (by kernel_rfl) (by kernel_rfl) (fun _ _ _ h => h) (Or.inl ⟨by rfl, ?_⟩) (by assumption) ?_
            rotate_left
            · (intro w hSw; (try dsimp only at hSw); go_simp; try (with_reducible rfl))
            try simp only [Act.put, List.setIfInBounds_toArray, List.set_cons_zero, List.set_cons_succ, List.getElem_toArray, List.getElem_cons_zero, List.getElem_cons_succ]
            refine wpAnyH_ready (rs := [32]) (by kernel_rfl) (by simp) ?_
            refine AllReadyH.cons rfl (fun K hK => ?_) AllReadyH.nil
            go_simp
            refine (HLS.out _ hHeld.2.2.2.2).mono ?_
            rintro e wn3 ⟨rfl, hbn⟩
            have hbc3 := hbc2.trans (hbn.mono hbc2.size)
            have hKeep := HKC.out _ hbc3
            clear hbn hHeld
            refine hK.out _ _ ?_ (fun hHeld => ?_)
            · exact hKeep
            clear hK K
            try simp only [Act.put, List.setIfInBounds_toArray, List.set_cons_zero, List.set_cons_succ, List.getElem_toArray, List.getElem_cons_zero, List.getElem_cons_succ]
            refine wpAnyH_take (i := 33) (v := ?_) rfl (by kernel_rfl) (by kernel_rfl) (by kernel_rfl) (fun _ _ _ h => h) (Or.inl ⟨by rfl, ?_⟩) (by assumption) ?_
            rotate_left
            · (intro w hSw; (try dsimp only at hSw); go_simp; try (with_reducible rfl))
            try simp only [Act.put, List.setIfInBounds_toArray, List.set_cons_zero, List.set_cons_succ, List.getElem_toArray, List.getElem_cons_zero, List.getElem_cons_succ]
            refine wpAnyH_take (i := 34) (v := ?_) rfl (by kernel_rfl) (by kernel_rfl) (by kernel_rfl) (fun _ _ _ h => h) (Or.inl ⟨by rfl, ?_⟩) (by assumption) ?_
            rotate_left
            · (intro w hSw; (try dsimp only at hSw); go_simp; try (with_reducible rfl))
            try simp only [Act.put, List.setIfInBounds_toArray, List.set_cons_zero, List.set_cons_succ, List.getElem_toArray, List.getElem_cons_zero, List.getElem_cons_succ]
            refine wpAnyH_done (by kernel_rfl) ?_ _
            clear hHeld hbc0 hbc1 hbc2
            go_wp2
            go_roundw
            case rel => exact ⟨k + 1, by go_num, by omega, hbc3⟩
            case measure => simp [intOf]; omega
          · have hu' : (uM == uK) = false := by rw [beq_eq_false_iff_ne]; exact hu
            go_upto_region 18 with fail
            clear x0 x1 y0 y1
            have hbc0 := hbo5.drew
            refine wp_region_held_drew (S := (fun w' => w'.cell? ⟨bl, ol + m * 2, none⟩ = some (.int .i64 mA) ∧ w'.cell? ⟨bl, ol + m * 2 + 1, none⟩ = some (.int .i64 mN) ∧ w'.cell? ⟨bl, ol + k * 2, none⟩ = some (.int .i64 kA) ∧ w'.cell? ⟨bl, ol + k * 2 + 1, none⟩ = some (.int .i64 kN) ∧ IpErrs w' et eb es)) (by kernel_rfl) ?_ (fun hHeld => ?_)
            · exact HKC.out _ hbc0
            refine wpAnyH_take (i := 0) (v := ?_) rfl (by kernel_rfl) (by kernel_rfl) (by kernel_rfl) (fun _ _ _ h => h) (Or.inl ⟨by rfl, ?_⟩) (by assumption) ?_
            rotate_left
            · (intro w hSw; (try dsimp only at hSw); go_simp; try (with_reducible rfl))
            try simp only [Act.put, List.setIfInBounds_toArray, List.set_cons_zero, List.set_cons_succ, List.getElem_toArray, List.getElem_cons_zero, List.getElem_cons_succ]
            refine wpAnyH_take (i := 1) (v := ?_) rfl (by kernel_rfl) (by kernel_rfl) (by kernel_rfl) (fun _ _ _ h => h) (Or.inl ⟨by rfl, ?_⟩) (by assumption) ?_
            rotate_left
            · (intro w hSw; (try dsimp only at hSw); go_simp; try (with_reducible rfl))
            try simp only [Act.put, List.setIfInBounds_toArray, List.set_cons_zero, List.set_cons_succ, List.getElem_toArray, List.getElem_cons_zero, List.getElem_cons_succ]
            refine wpAnyH_take (i := 2) (v := ?_) rfl (by kernel_rfl) (by kernel_rfl) (by kernel_rfl) (fun _ _ _ h => h) (Or.inl ⟨by rfl, ?_⟩) (by assumption) ?_
            rotate_left
            · (intro w hSw; (try dsimp only at hSw); go_simp; try (with_reducible rfl))
            try simp only [Act.put, List.setIfInBounds_toArray, List.set_cons_zero, List.set_cons_succ, List.getElem_toArray, List.getElem_cons_zero, List.getElem_cons_succ]
            refine wpAnyH_take (i := 3) (v := ?_) rfl (by kernel_rfl) (by kernel_rfl) (by kernel_rfl) (fun _ _ _ h => h) (Or.inl ⟨by rfl, ?_⟩) (by assumption) ?_
            rotate_left
            · (intro w hSw; (try dsimp only at hSw); go_simp; try (with_reducible rfl))
            try simp only [Act.put, List.setIfInBounds_toArray, List.set_cons_zero, List.set_cons_succ, List.getElem_toArray, List.getElem_cons_zero, List.getElem_cons_succ]
            refine wpAnyH_take (i := 4) (v := ?_) rfl (by kernel_rfl) (by kernel_rfl) (by kernel_rfl) (fun _ _ _ h => h) (Or.inl ⟨by rfl, ?_⟩) (by assumption) ?_
            rotate_left
            · (intro w hSw; (try dsimp only at hSw); go_simp; try (with_reducible rfl))
            try simp only [Act.put, List.setIfInBounds_toArray, List.set_cons_zero, List.set_cons_succ, List.getElem_toArray, List.getElem_cons_zero, List.getElem_cons_succ]
            refine wpAnyH_take (i := 5) (v := ?_) rfl (by kernel_rfl) (by kernel_rfl) (by kernel_rfl) (fun _ _ _ h => h) (Or.inl ⟨by rfl, ?_⟩) (by assumption) ?_
            rotate_left
            · (intro w hSw; (try dsimp only at hSw); go_simp; try (with_reducible rfl))
            try simp only [Act.put, List.setIfInBounds_toArray, List.set_cons_zero, List.set_cons_succ, List.getElem_toArray, List.getElem_cons_zero, List.getElem_cons_succ]
            refine wpAnyH_take (i := 6) (v := ?_) rfl (by kernel_rfl) (by kernel_rfl) (by kernel_rfl) (fun _ _ _ h => h) (Or.inl ⟨by rfl, ?_⟩) (by assumption) ?_
            rotate_left
            · (intro w hSw; (try dsimp only at hSw); go_simp; try (with_reducible rfl))
            try simp only [Act.put, List.setIfInBounds_toArray, List.set_cons_zero, List.set_cons_succ, List.getElem_toArray, List.getElem_cons_zero, List.getElem_cons_succ]
            refine wpAnyH_take (i := 7) (v := ?_) rfl (by kernel_rfl) (by kernel_rfl) (by kernel_rfl) (fun _ _ _ h => h) (Or.inl ⟨by rfl, ?_⟩) (by assumption) ?_
            rotate_left
            · (intro w hSw; (try dsimp only at hSw); go_simp; try (with_reducible rfl))
            try simp only [Act.put, List.setIfInBounds_toArray, List.set_cons_zero, List.set_cons_succ, List.getElem_toArray, List.getElem_cons_zero, List.getElem_cons_succ]
            refine wpAnyH_take (i := 8) (v := ?_) rfl (by kernel_rfl) (by kernel_rfl) (by kernel_rfl) (fun _ _ _ h => h) (Or.inl ⟨by rfl, ?_⟩) (by assumption) ?_
            rotate_left
            · (intro w hSw; (try dsimp only at hSw); go_simp; try (with_reducible rfl))
            try simp only [Act.put, List.setIfInBounds_toArray, List.set_cons_zero, List.set_cons_succ, List.getElem_toArray, List.getElem_cons_zero, List.getElem_cons_succ]
            refine wpAnyH_take (i := 9) (v := ?_) rfl (by kernel_rfl) (by kernel_rfl) (by kernel_rfl) (fun _ _ _ h => h) (Or.inl ⟨by rfl, ?_⟩) (by assumption) ?_
            rotate_left
            · (intro w hSw; (try dsimp only at hSw); go_simp; try (with_reducible rfl))
            try simp only [Act.put, List.setIfInBounds_toArray, List.set_cons_zero, List.set_cons_succ, List.getElem_toArray, List.getElem_cons_zero, List.getElem_cons_succ]
            refine wpAnyH_ready (rs := [10]) (by kernel_rfl) (by simp) ?_
            refine AllReadyH.cons rfl (fun K hK => ?_) AllReadyH.nil
            go_simp
            refine (HIN1.out _ hHeld.2.2.2.2).mono ?_
            rintro e wn1 ⟨rfl, hbn⟩
            have hbc1 := hbc0.trans (hbn.mono hbc0.size)
            have hKeep := HKC.out _ hbc1
            clear hbn hHeld
            refine hK.out _ _ ?_ (fun hHeld => ?_)
            · exact hKeep
            clear hK K
            try simp only [Act.put, List.setIfInBounds_toArray, List.set_cons_zero, List.set_cons_succ, List.getElem_toArray, List.getElem_cons_zero, List.getElem_cons_succ]
            refine wpAnyH_take (i := 11) (v := ?_) rfl (by kernel_rfl) (by kernel_rfl) (by kernel_rfl) (fun _ _ _ h => h) (Or.inl ⟨by rfl, ?_⟩) (by assumption) ?_
            rotate_left
            · (intro w hSw; (try dsimp only at hSw); go_simp; try (with_reducible rfl))
            try simp only [Act.put, List.setIfInBounds_toArray, List.set_cons_zero, List.set_cons_succ, List.getElem_toArray, List.getElem_cons_zero, List.getElem_cons_succ]
            refine wpAnyH_take (i := 12) (v := ?_) rfl (by kernel_rfl) (by kernel_rfl) (by kernel_rfl) (fun _ _ _ h => h) (Or.inl ⟨by rfl, ?_⟩) (by assumption) ?_
            rotate_left
            · (intro w hSw; (try dsimp only at hSw); go_simp; try (with_reducible rfl))
            try simp only [Act.put, List.setIfInBounds_toArray, List.set_cons_zero, List.set_cons_succ, List.getElem_toArray, List.getElem_cons_zero, List.getElem_cons_succ]
            refine wpAnyH_take (i := 13) (v := ?_) rfl (by kernel_rfl) (by kernel_rfl) (by kernel_rfl) (fun _ _ _ h => h) (Or.inl ⟨by rfl, ?_⟩) (by assumption) ?_
            rotate_left
            · (intro w hSw; (try dsimp only at hSw); go_simp; try (with_reducible rfl))
            try simp only [Act.put, List.setIfInBounds_toArray, List.set_cons_zero, List.set_cons_succ, List.getElem_toArray, List.getElem_cons_zero, List.getElem_cons_succ]
            refine wpAnyH_take (i := 14) (v := ?_) rfl (by kernel_rfl) (by kernel_rfl) (by kernel_rfl) (fun _ _ _ h => h) (Or.inl ⟨by rfl, ?_⟩) (by assumption) ?_
            rotate_left
            · (intro w hSw; (try dsimp only at hSw); go_simp; try (with_reducible rfl))
            try simp only [Act.put, List.setIfInBounds_toArray, List.set_cons_zero, List.set_cons_succ, List.getElem_toArray, List.getElem_cons_zero, List.getElem_cons_succ]
            refine wpAnyH_take (i := 15) (v := ?_) rfl (by kernel_rfl) (by kernel_rfl) (by kernel_rfl) (fun _ _ _ h => h) (Or.inl ⟨by rfl, ?_⟩) (by assumption) ?_
            rotate_left
            · (intro w hSw; (try dsimp only at hSw); go_simp; try (with_reducible rfl))
            try simp only [Act.put, List.setIfInBounds_toArray, List.set_cons_zero, List.set_cons_succ, List.getElem_toArray, List.getElem_cons_zero, List.getElem_cons_succ]
            refine wpAnyH_take (i := 16) (v := ?_) rfl (by kernel_rfl) (by kernel_rfl) (by kernel_rfl) (fun _ _ _ h => h) (Or.inl ⟨by rfl, ?_⟩) (by assumption) ?_
            rotate_left
            · (intro w hSw; (try dsimp only at hSw); go_simp; try (with_reducible rfl))
            try simp only [Act.put, List.setIfInBounds_toArray, List.set_cons_zero, List.set_cons_succ, List.getElem_toArray, List.getElem_cons_zero, List.getElem_cons_succ]
            refine wpAnyH_take (i := 17) (v := ?_) rfl (by kernel_rfl) (by kernel_rfl) (by kernel_rfl) (fun _ _ _ h => h) (Or.inl ⟨by rfl, ?_⟩) (by assumption) ?_
            rotate_left
            · (intro w hSw; (try dsimp only at hSw); go_simp; try (with_reducible rfl))
            try simp only [Act.put, List.setIfInBounds_toArray, List.set_cons_zero, List.set_cons_succ, List.getElem_toArray, List.getElem_cons_zero, List.getElem_cons_succ]
            refine wpAnyH_take (i := 18) (v := ?_) rfl (by kernel_rfl) (by kernel_rfl) (by kernel_rfl) (fun _ _ _ h => h) (Or.inl ⟨by rfl, ?_⟩) (by assumption) ?_
            rotate_left
            · (intro w hSw; (try dsimp only at hSw); go_simp; try (with_reducible rfl))
            try simp only [Act.put, List.setIfInBounds_toArray, List.set_cons_zero, List.set_cons_succ, List.getElem_toArray, List.getElem_cons_zero, List.getElem_cons_succ]
            refine wpAnyH_take (i := 19) (v := ?_) rfl (by kernel_rfl) (by kernel_rfl) (by kernel_rfl) (fun _ _ _ h => h) (Or.inl ⟨by rfl, ?_⟩) (by assumption) ?_
            rotate_left
            · (intro w hSw; (try dsimp only at hSw); go_simp; try (with_reducible rfl))
            try simp only [Act.put, List.setIfInBounds_toArray, List.set_cons_zero, List.set_cons_succ, List.getElem_toArray, List.getElem_cons_zero, List.getElem_cons_succ]
            refine wpAnyH_take (i := 20) (v := ?_) rfl (by kernel_rfl) (by kernel_rfl) (by kernel_rfl) (fun _ _ _ h => h) (Or.inl ⟨by rfl, ?_⟩) (by assumption) ?_
            rotate_left
            · (intro w hSw; (try dsimp only at hSw); go_simp; try (with_reducible rfl))
            try simp only [Act.put, List.setIfInBounds_toArray, List.set_cons_zero, List.set_cons_succ, List.getElem_toArray, List.getElem_cons_zero, List.getElem_cons_succ]
            refine wpAnyH_ready (rs := [21]) (by kernel_rfl) (by simp) ?_
            refine AllReadyH.cons rfl (fun K hK => ?_) AllReadyH.nil
            go_simp
            refine (HIN2.out _ hHeld.2.2.2.2).mono ?_
            rintro e wn2 ⟨rfl, hbn⟩
            have hbc2 := hbc1.trans (hbn.mono hbc1.size)
            have hKeep := HKC.out _ hbc2
            clear hbn hHeld
            refine hK.out _ _ ?_ (fun hHeld => ?_)
            · exact hKeep
            clear hK K
            try simp only [Act.put, List.setIfInBounds_toArray, List.set_cons_zero, List.set_cons_succ, List.getElem_toArray, List.getElem_cons_zero, List.getElem_cons_succ]
            refine wpAnyH_take (i := 22) (v := ?_) rfl (by kernel_rfl) (by kernel_rfl) (by kernel_rfl) (fun _ _ _ h => h) (Or.inl ⟨by rfl, ?_⟩) (by assumption) ?_
            rotate_left
            · (intro w hSw; (try dsimp only at hSw); go_simp; try (with_reducible rfl))
            try simp only [Act.put, List.setIfInBounds_toArray, List.set_cons_zero, List.set_cons_succ, List.getElem_toArray, List.getElem_cons_zero, List.getElem_cons_succ]
            refine wpAnyH_take (i := 23) (v := ?_) rfl (by kernel_rfl) (by kernel_rfl) (by kernel_rfl) (fun _ _ _ h => h) (Or.inl ⟨by rfl, ?_⟩) (by assumption) ?_
            rotate_left
            · (intro w hSw; (try dsimp only at hSw); go_simp; try (with_reducible rfl))
            try simp only [Act.put, List.setIfInBounds_toArray, List.set_cons_zero, List.set_cons_succ, List.getElem_toArray, List.getElem_cons_zero, List.getElem_cons_succ]
            refine wpAnyH_take (i := 24) (v := ?_) rfl (by kernel_rfl) (by kernel_rfl) (by kernel_rfl) (fun _ _ _ h => h) (Or.inl ⟨by rfl, ?_⟩) (by assumption) ?_
            rotate_left
            · (intro w hSw; (try dsimp only at hSw); go_simp; try (with_reducible rfl))
            try simp only [Act.put, List.setIfInBounds_toArray, List.set_cons_zero, List.set_cons_succ, List.getElem_toArray, List.getElem_cons_zero, List.getElem_cons_succ]
            refine wpAnyH_take (i := 25) (v := ?_) rfl (by kernel_rfl) (by kernel_rfl) (by kernel_rfl) (fun _ _ _ h => h) (Or.inl ⟨by rfl, ?_⟩) (by assumption) ?_
            rotate_left
            · (intro w hSw; (try dsimp only at hSw); go_simp; try (with_reducible rfl))
            try simp only [Act.put, List.setIfInBounds_toArray, List.set_cons_zero, List.set_cons_succ, List.getElem_toArray, List.getElem_cons_zero, List.getElem_cons_succ]
            refine wpAnyH_take (i := 26) (v := ?_) rfl (by kernel_rfl) (by kernel_rfl) (by kernel_rfl) (fun _ _ _ h => h) (Or.inl ⟨by rfl, ?_⟩) (by assumption) ?_
            rotate_left
            · (intro w hSw; (try dsimp only at hSw); go_simp; try (with_reducible rfl))
            try simp only [Act.put, List.setIfInBounds_toArray, List.set_cons_zero, List.set_cons_succ, List.getElem_toArray, List.getElem_cons_zero, List.getElem_cons_succ]
            refine wpAnyH_take (i := 27) (v := ?_) rfl (by kernel_rfl) (by kernel_rfl) (by kernel_rfl) (fun _ _ _ h => h) (Or.inl ⟨by rfl, ?_⟩) (by assumption) ?_
            rotate_left
            · (intro w hSw; (try dsimp only at hSw); go_simp; try (with_reducible rfl))
            try simp only [Act.put, List.setIfInBounds_toArray, List.set_cons_zero, List.set_cons_succ, List.getElem_toArray, List.getElem_cons_zero, List.getElem_cons_succ]
            refine wpAnyH_take (i := 28) (v := ?_) rfl (by kernel_rfl) (by kernel_rfl) (by kernel_rfl) (fun _ _ _ h => h) (Or.inl ⟨by rfl, ?_⟩) (by assumption) ?_
            rotate_left
            · (intro w hSw; (try dsimp only at hSw); go_simp; try (with_reducible rfl))
            try simp only [Act.put, List.setIfInBounds_toArray, List.set_cons_zero, List.set_cons_succ, List.getElem_toArray, List.getElem_cons_zero, List.getElem_cons_succ]
            refine wpAnyH_take (i := 29) (v := ?_) rfl (by kernel_rfl) (by kernel_rfl) (by kernel_rfl) (fun _ _ _ h => h) (Or.inl ⟨by rfl, ?_⟩) (by assumption) ?_
            rotate_left
            · (intro w hSw; (try dsimp only at hSw); go_simp; try (with_reducible rfl))
            try simp only [Act.put, List.setIfInBounds_toArray, List.set_cons_zero, List.set_cons_succ, List.getElem_toArray, List.getElem_cons_zero, List.getElem_cons_succ]
            refine wpAnyH_take (i := 30) (v := ?_) rfl (by kernel_rfl) (by kernel_rfl) (by kernel_rfl) (fun _ _ _ h => h) (Or.inl ⟨by rfl, ?_⟩) (by assumption) ?_
            rotate_left
            · (intro w hSw; (try dsimp only at hSw); go_simp; try (with_reducible rfl))
            try simp only [Act.put, List.setIfInBounds_toArray, List.set_cons_zero, List.set_cons_succ, List.getElem_toArray, List.getElem_cons_zero, List.getElem_cons_succ]
            refine wpAnyH_take (i := 31) (v := ?_) rfl (by kernel_rfl) (by kernel_rfl) (by kernel_rfl) (fun _ _ _ h => h) (Or.inl ⟨by rfl, ?_⟩) (by assumption) ?_
            rotate_left
            · (intro w hSw; (try dsimp only at hSw); go_simp; try (with_reducible rfl))
            try simp only [Act.put, List.setIfInBounds_toArray, List.set_cons_zero, List.set_cons_succ, List.getElem_toArray, List.getElem_cons_zero, List.getElem_cons_succ]
            refine wpAnyH_ready (rs := [32]) (by kernel_rfl) (by simp) ?_
            refine AllReadyH.cons rfl (fun K hK => ?_) AllReadyH.nil
            go_simp
            refine (HLS.out _ hHeld.2.2.2.2).mono ?_
            rintro e wn3 ⟨rfl, hbn⟩
            have hbc3 := hbc2.trans (hbn.mono hbc2.size)
            have hKeep := HKC.out _ hbc3
            clear hbn hHeld
            refine hK.out _ _ ?_ (fun hHeld => ?_)
            · exact hKeep
            clear hK K
            try simp only [Act.put, List.setIfInBounds_toArray, List.set_cons_zero, List.set_cons_succ, List.getElem_toArray, List.getElem_cons_zero, List.getElem_cons_succ]
            refine wpAnyH_take (i := 33) (v := ?_) rfl (by kernel_rfl) (by kernel_rfl) (by kernel_rfl) (fun _ _ _ h => h) (Or.inl ⟨by rfl, ?_⟩) (by assumption) ?_
            rotate_left
            · (intro w hSw; (try dsimp only at hSw); go_simp; try (with_reducible rfl))
            try simp only [Act.put, List.setIfInBounds_toArray, List.set_cons_zero, List.set_cons_succ, List.getElem_toArray, List.getElem_cons_zero, List.getElem_cons_succ]
            refine wpAnyH_take (i := 34) (v := ?_) rfl (by kernel_rfl) (by kernel_rfl) (by kernel_rfl) (fun _ _ _ h => h) (Or.inl ⟨by rfl, ?_⟩) (by assumption) ?_
            rotate_left
            · (intro w hSw; (try dsimp only at hSw); go_simp; try (with_reducible rfl))
            try simp only [Act.put, List.setIfInBounds_toArray, List.set_cons_zero, List.set_cons_succ, List.getElem_toArray, List.getElem_cons_zero, List.getElem_cons_succ]
            refine wpAnyH_done (by kernel_rfl) ?_ _
            clear hHeld hbc0 hbc1 hbc2
            go_wp2
            go_roundw
            case rel => exact ⟨k + 1, by go_num, by omega, hbc3⟩
            case measure => simp [intOf]; omega
        · go_wp2
          go_roundw
          case rel => exact ⟨m + 1, by go_num, by omega, hbo⟩
          case measure => simp [intOf]; omega
    · have hb := hbo
      have hml' : ¬ (m : Int) < (LL.length : Int) := by omega
      clear hbo hm
      obtain ⟨HP'⟩ : Nonempty (Hid (BIn wr et eb es a b pa pb ∧ Pairs wr qL LL ∧ True)) := ⟨⟨HP.out.1.below hb, HP.out.2.1.below hb, trivial⟩⟩
      have hbt' := hbt.trans (hb.mono hbt.size)
      clear HP hb hbt
      have HP := HP'
      have hbt := hbt'
      clear HP' hbt'
      obtain ⟨HN⟩ : Nonempty (Hid (Calls _ _ _ _ _)) := ⟨norm_any LL LL.length (rights_to HSL.out.1.right) qL cL et eb es wr HP.out.1.env HP.out.2.1 (by have := HSL.out.2.2.1; omega)⟩
      go_wp2_with fail
      refine HN.out.mono ?_
      clear HN
      rintro e w21 ⟨⟨-, Lag, v, rfl, hG⟩ | ⟨v, -, hF⟩, hb⟩
      rotate_left
      · exact (no_fault hF).elim
      obtain ⟨qag, cag, rfl, hpN, hs1, hs2, hs3, hs4⟩ := hG.get'
      obtain ⟨HSag⟩ : Nonempty (Hid (NP Lag ∧ (∀ x, inPB Lag x = inPB LL x) ∧ Lag.length ≤ 4294967296 ∧ Kind (.slice qag Lag.length cag) Lag.length)) := ⟨⟨hs1, hs2, hs3, hs4⟩⟩
      clear hG hs1 hs2 hs3 hs4
      obtain ⟨HP'⟩ : Nonempty (Hid (BIn w21 et eb es a b pa pb ∧ Pairs w21 qL LL ∧ Pairs w21 qag Lag ∧ True)) := ⟨⟨HP.out.1.below hb, HP.out.2.1.below hb, hpN, trivial⟩⟩
      have hbt' := hbt.trans (hb.mono hbt.size)
      clear HP hb hbt hpN
      have HP := HP'
      have hbt := hbt'
      clear HP' hbt'
      obtain ⟨HN⟩ : Nonempty (Hid (Calls _ _ _ _ _)) := ⟨samePrefixes_any Lag LL qag qL cag cL w21 HP.out.2.2.1 HP.out.2.1 (by have := HSag.out.2.2.1; omega)⟩
      have hsame : decide (Lag = LL) = true := decide_eq_true (np_same HSag.out.1 HSL.out.1 (fun z => by rw [HSag.out.2.1]))
      rw [hsame] at HN
      clear hsame
      go_wp2_with fail
      refine HN.out.mono ?_
      clear HN
      rintro e w22 ⟨rfl, hb⟩
      obtain ⟨HP'⟩ : Nonempty (Hid (BIn w22 et eb es a b pa pb ∧ Pairs w22 qL LL ∧ Pairs w22 qag Lag ∧ True)) := ⟨⟨HP.out.1.below hb, HP.out.2.1.below hb, HP.out.2.2.1.below hb, trivial⟩⟩
      have hbt' := hbt.trans (hb.mono hbt.size)
      clear HP hb hbt
      have HP := HP'
      have hbt := hbt'
      clear HP' hbt'
      obtain ⟨HN⟩ : Nonempty (Hid (Calls _ _ _ _ _)) := ⟨Or_any a b a.length j Ra.out HRI.out.2.1 pa pb ca cb et eb es w22 HP.out.1.env HP.out.1.pa HP.out.1.pb (by omega) (by omega)⟩
      go_wp2_with fail
      refine HN.out.mono ?_
      clear HN
      rintro e w23 ⟨⟨-, hjb, Lor, v, rfl, hG⟩ | ⟨v, -, hF⟩ | ⟨-, v, rfl, hF⟩, hb⟩
      rotate_left
      · exact (no_fault hF).elim
      · obtain ⟨-, bb, rfl, -⟩ := hF
        have hb3 := hbt.trans (hb.mono hbt.size)
        clear hbt hb HP
        go_wp2
        go_ret
        exact ⟨rfl, hb3⟩
      obtain ⟨Rb⟩ : Nonempty (Hid (RightTo b b.length)) := ⟨by have := HRI.out.2.1; rw [hjb] at this; exact this⟩
      clear hjb
      obtain ⟨qor, cor, rfl, hpN, hs1, hs2, hs3, hs4⟩ := hG.get'
      obtain ⟨HSor⟩ : Nonempty (Hid (NP Lor ∧ (∀ x, inPB Lor x = askB (fun x y => x || y) a b x) ∧ Lor.length ≤ 4294967296 ∧ Kind (.slice qor Lor.length cor) Lor.length)) := ⟨⟨hs1, hs2, hs3, hs4⟩⟩
      clear hG hs1 hs2 hs3 hs4
      obtain ⟨HP'⟩ : Nonempty (Hid (BIn w23 et eb es a b pa pb ∧ Pairs w23 qL LL ∧ Pairs w23 qag Lag ∧ Pairs w23 qor Lor ∧ True)) := ⟨⟨HP.out.1.below hb, HP.out.2.1.below hb, HP.out.2.2.1.below hb, hpN, trivial⟩⟩
      have hbt' := hbt.trans (hb.mono hbt.size)
      clear HP hb hbt hpN
      have HP := HP'
      have hbt := hbt'
      clear HP' hbt'
      obtain ⟨HN⟩ : Nonempty (Hid (Calls _ _ _ _ _)) := ⟨And_any a b a.length b.length Ra.out Rb.out pa pb ca cb et eb es w23 HP.out.1.env HP.out.1.pa HP.out.1.pb (by omega) (by omega)⟩
      go_wp2_with fail
      refine HN.out.mono ?_
      clear HN
      rintro e w24 ⟨⟨-, -, Land, v, rfl, hG⟩ | ⟨v, -, hF⟩ | ⟨-, v, -, hF⟩, hb⟩
      rotate_left
      · exact (no_fault hF).elim
      · exact (no_fault hF).elim
      obtain ⟨qand, cand, rfl, hpN, hs1, hs2, hs3, hs4⟩ := hG.get'
      obtain ⟨HSand⟩ : Nonempty (Hid (NP Land ∧ (∀ x, inPB Land x = askB (fun x y => x && y) a b x) ∧ Land.length ≤ 4294967296 ∧ Kind (.slice qand Land.length cand) Land.length)) := ⟨⟨hs1, hs2, hs3, hs4⟩⟩
      clear hG hs1 hs2 hs3 hs4
      obtain ⟨HP'⟩ : Nonempty (Hid (BIn w24 et eb es a b pa pb ∧ Pairs w24 qL LL ∧ Pairs w24 qag Lag ∧ Pairs w24 qor Lor ∧ Pairs w24 qand Land ∧ True)) := ⟨⟨HP.out.1.below hb, HP.out.2.1.below hb, HP.out.2.2.1.below hb, HP.out.2.2.2.1.below hb, hpN, trivial⟩⟩
      have hbt' := hbt.trans (hb.mono hbt.size)
      clear HP hb hbt hpN
      have HP := HP'
      have hbt := hbt'
      clear HP' hbt'
      obtain ⟨HN⟩ : Nonempty (Hid (Calls _ _ _ _ _)) := ⟨Not_any a b a.length b.length Ra.out Rb.out pa pb ca cb et eb es w24 HP.out.1.env HP.out.1.pa HP.out.1.pb (by omega) (by omega)⟩
      go_wp2_with fail
      refine HN.out.mono ?_
      clear HN
      rintro e w25 ⟨⟨-, -, Lone, v, rfl, hG⟩ | ⟨v, -, hF⟩ | ⟨-, v, -, hF⟩, hb⟩
      rotate_left
      · exact (no_fault hF).elim
      · exact (no_fault hF).elim
      obtain ⟨qone, cone, rfl, hpN, hs1, hs2, hs3, hs4⟩ := hG.get'
      obtain ⟨HSone⟩ : Nonempty (Hid (NP Lone ∧ (∀ x, inPB Lone x = askB (fun x y => x && !y) a b x) ∧ Lone.length ≤ 4294967296 ∧ Kind (.slice qone Lone.length cone) Lone.length)) := ⟨⟨hs1, hs2, hs3, hs4⟩⟩
      clear hG hs1 hs2 hs3 hs4
      obtain ⟨HP'⟩ : Nonempty (Hid (BIn w25 et eb es a b pa pb ∧ Pairs w25 qL LL ∧ Pairs w25 qag Lag ∧ Pairs w25 qor Lor ∧ Pairs w25 qand Land ∧ Pairs w25 qone Lone ∧ True)) := ⟨⟨HP.out.1.below hb, HP.out.2.1.below hb, HP.out.2.2.1.below hb, HP.out.2.2.2.1.below hb, HP.out.2.2.2.2.1.below hb, hpN, trivial⟩⟩
      have hbt' := hbt.trans (hb.mono hbt.size)
      clear HP hb hbt hpN
      have HP := HP'
      have hbt := hbt'
      clear HP' hbt'
      obtain ⟨HN⟩ : Nonempty (Hid (Calls _ _ _ _ _)) := ⟨Not_any b a b.length a.length Rb.out Ra.out pb pa cb ca et eb es w25 HP.out.1.env HP.out.1.pb HP.out.1.pa (by omega) (by omega)⟩
      go_wp2_with fail
      refine HN.out.mono ?_
      clear HN
      rintro e w26 ⟨⟨-, -, Ltwo, v, rfl, hG⟩ | ⟨v, -, hF⟩ | ⟨-, v, -, hF⟩, hb⟩
      rotate_left
      · exact (no_fault hF).elim
      · exact (no_fault hF).elim
      obtain ⟨qtwo, ctwo, rfl, hpN, hs1, hs2, hs3, hs4⟩ := hG.get'
      obtain ⟨HStwo⟩ : Nonempty (Hid (NP Ltwo ∧ (∀ x, inPB Ltwo x = askB (fun x y => x && !y) b a x) ∧ Ltwo.length ≤ 4294967296 ∧ Kind (.slice qtwo Ltwo.length ctwo) Ltwo.length)) := ⟨⟨hs1, hs2, hs3, hs4⟩⟩
      clear hG hs1 hs2 hs3 hs4
      obtain ⟨HP'⟩ : Nonempty (Hid (BIn w26 et eb es a b pa pb ∧ Pairs w26 qL LL ∧ Pairs w26 qag Lag ∧ Pairs w26 qor Lor ∧ Pairs w26 qand Land ∧ Pairs w26 qone Lone ∧ Pairs w26 qtwo Ltwo ∧ True)) := ⟨⟨HP.out.1.below hb, HP.out.2.1.below hb, HP.out.2.2.1.below hb, HP.out.2.2.2.1.below hb, HP.out.2.2.2.2.1.below hb, HP.out.2.2.2.2.2.1.below hb, hpN, trivial⟩⟩
      have hbt' := hbt.trans (hb.mono hbt.size)
      clear HP hb hbt hpN
      have HP := HP'
      have hbt := hbt'
      clear HP' hbt'
      obtain ⟨hy, hhy⟩ : ∃ r, Hid (inPB b x = r) := ⟨_, show _ = _ from rfl⟩
      obtain ⟨HHb⟩ : Nonempty (Hid (hasL b x = hy)) := ⟨by rw [Hid, hasL_right Rb.out.rights]; exact hhy.out⟩
      obtain ⟨HHand⟩ : Nonempty (Hid (hasL Land x = (hx && hy))) := ⟨by rw [Hid, hasL_right HSand.out.1.right, HSand.out.2.1]; unfold askB; rw [hhx.out, hhy.out]⟩
      obtain ⟨HHone⟩ : Nonempty (Hid (hasL Lone x = (hx && !hy))) := ⟨by rw [Hid, hasL_right HSone.out.1.right, HSone.out.2.1]; unfold askB; rw [hhx.out, hhy.out]⟩
      go_upto_region 31 with fail
      go_cut [216] from 190 (fun s w' => s = .bool false ∧ ∃ W, W = w' ∧ Below w26.heap.size w26 W)
      case first =>
        as_aux_lemma =>
        clear hxx hxx2
        obtain ⟨HQ⟩ : Nonempty (Hid (Below w26.heap.size w26 w26)) := ⟨Below.refl _ _⟩
        cases hx with
        | true =>
          cases hy with
          | true =>
            have HQ0 := HQ.out
            obtain ⟨HN⟩ : Nonempty (Hid (Calls _ _ _ _ _)) := ⟨hasSet_any Land qand cand x et eb es w26 HP.out.2.2.2.2.1 HP.out.1.env.errs (by have := HSand.out.2.2.1; omega)⟩
            rw [show hasL Land x = true from HHand.out] at HN
            go_wp2_with fail
            refine HN.out.mono ?_
            clear HN
            rintro e w27 ⟨rfl, hb⟩
            have HQ1 := HQ0.trans (hb.mono HQ0.size)
            obtain ⟨HP'⟩ : Nonempty (Hid (BIn w27 et eb es a b pa pb ∧ Pairs w27 qL LL ∧ Pairs w27 qag Lag ∧ Pairs w27 qor Lor ∧ Pairs w27 qand Land ∧ Pairs w27 qone Lone ∧ Pairs w27 qtwo Ltwo ∧ True)) := ⟨⟨HP.out.1.below hb, HP.out.2.1.below hb, HP.out.2.2.1.below hb, HP.out.2.2.2.1.below hb, HP.out.2.2.2.2.1.below hb, HP.out.2.2.2.2.2.1.below hb, HP.out.2.2.2.2.2.2.1.below hb, trivial⟩⟩
            have hbt' := hbt.trans (hb.mono hbt.size)
            clear HP hb hbt
            have HP := HP'
            have hbt := hbt'
            clear HP' hbt'
            clear HQ0
            obtain ⟨HN⟩ : Nonempty (Hid (Calls _ _ _ _ _)) := ⟨hasSet_any a pa ca x et eb es w27 HP.out.1.pa HP.out.1.env.errs (by omega)⟩
            rw [show hasL a x = true from HHa.out] at HN
            go_wp2_with fail
            refine HN.out.mono ?_
            clear HN
            rintro e w28 ⟨rfl, hb⟩
            have HQ2 := HQ1.trans (hb.mono HQ1.size)
            obtain ⟨HP'⟩ : Nonempty (Hid (BIn w28 et eb es a b pa pb ∧ Pairs w28 qL LL ∧ Pairs w28 qag Lag ∧ Pairs w28 qor Lor ∧ Pairs w28 qand Land ∧ Pairs w28 qone Lone ∧ Pairs w28 qtwo Ltwo ∧ True)) := ⟨⟨HP.out.1.below hb, HP.out.2.1.below hb, HP.out.2.2.1.below hb, HP.out.2.2.2.1.below hb, HP.out.2.2.2.2.1.below hb, HP.out.2.2.2.2.2.1.below hb, HP.out.2.2.2.2.2.2.1.below hb, trivial⟩⟩
            have hbt' := hbt.trans (hb.mono hbt.size)
            clear HP hb hbt
            have HP := HP'
            have hbt := hbt'
            clear HP' hbt'
            clear HQ1
            obtain ⟨HN⟩ : Nonempty (Hid (Calls _ _ _ _ _)) := ⟨hasSet_any b pb cb x et eb es w28 HP.out.1.pb HP.out.1.env.errs (by omega)⟩
            rw [show hasL b x = true from HHb.out] at HN
            go_wp2_with fail
            refine HN.out.mono ?_
            clear HN
            rintro e w29 ⟨rfl, hb⟩
            have HQ3 := HQ2.trans (hb.mono HQ2.size)
            obtain ⟨HP'⟩ : Nonempty (Hid (BIn w29 et eb es a b pa pb ∧ Pairs w29 qL LL ∧ Pairs w29 qag Lag ∧ Pairs w29 qor Lor ∧ Pairs w29 qand Land ∧ Pairs w29 qone Lone ∧ Pairs w29 qtwo Ltwo ∧ True)) := ⟨⟨HP.out.1.below hb, HP.out.2.1.below hb, HP.out.2.2.1.below hb, HP.out.2.2.2.1.below hb, HP.out.2.2.2.2.1.below hb, HP.out.2.2.2.2.2.1.below hb, HP.out.2.2.2.2.2.2.1.below hb, trivial⟩⟩
            have hbt' := hbt.trans (hb.mono hbt.size)
            clear HP hb hbt
            have HP := HP'
            have hbt := hbt'
            clear HP' hbt'
            clear HQ2
            obtain ⟨HN⟩ : Nonempty (Hid (Calls _ _ _ _ _)) := ⟨hasSet_any Lone qone cone x et eb es w29 HP.out.2.2.2.2.2.1 HP.out.1.env.errs (by have := HSone.out.2.2.1; omega)⟩
            rw [show hasL Lone x = false from HHone.out] at HN
            go_wp2_with fail
            refine HN.out.mono ?_
            clear HN
            rintro e w30 ⟨rfl, hb⟩
            have HQ4 := HQ3.trans (hb.mono HQ3.size)
            obtain ⟨HP'⟩ : Nonempty (Hid (BIn w30 et eb es a b pa pb ∧ Pairs w30 qL LL ∧ Pairs w30 qag Lag ∧ Pairs w30 qor Lor ∧ Pairs w30 qand Land ∧ Pairs w30 qone Lone ∧ Pairs w30 qtwo Ltwo ∧ True)) := ⟨⟨HP.out.1.below hb, HP.out.2.1.below hb, HP.out.2.2.1.below hb, HP.out.2.2.2.1.below hb, HP.out.2.2.2.2.1.below hb, HP.out.2.2.2.2.2.1.below hb, HP.out.2.2.2.2.2.2.1.below hb, trivial⟩⟩
            have hbt' := hbt.trans (hb.mono hbt.size)
            clear HP hb hbt
            have HP := HP'
            have hbt := hbt'
            clear HP' hbt'
            clear HQ3
            obtain ⟨HN⟩ : Nonempty (Hid (Calls _ _ _ _ _)) := ⟨hasSet_any a pa ca x et eb es w30 HP.out.1.pa HP.out.1.env.errs (by omega)⟩
            rw [show hasL a x = true from HHa.out] at HN
            go_wp2_with fail
            refine HN.out.mono ?_
            clear HN
            rintro e w31 ⟨rfl, hb⟩
            have HQ5 := HQ4.trans (hb.mono HQ4.size)
            obtain ⟨HP'⟩ : Nonempty (Hid (BIn w31 et eb es a b pa pb ∧ Pairs w31 qL LL ∧ Pairs w31 qag Lag ∧ Pairs w31 qor Lor ∧ Pairs w31 qand Land ∧ Pairs w31 qone Lone ∧ Pairs w31 qtwo Ltwo ∧ True)) := ⟨⟨HP.out.1.below hb, HP.out.2.1.below hb, HP.out.2.2.1.below hb, HP.out.2.2.2.1.below hb, HP.out.2.2.2.2.1.below hb, HP.out.2.2.2.2.2.1.below hb, HP.out.2.2.2.2.2.2.1.below hb, trivial⟩⟩
            have hbt' := hbt.trans (hb.mono hbt.size)
            clear HP hb hbt
            have HP := HP'
            have hbt := hbt'
            clear HP' hbt'
            clear HQ4
            obtain ⟨HN⟩ : Nonempty (Hid (Calls _ _ _ _ _)) := ⟨hasSet_any b pb cb x et eb es w31 HP.out.1.pb HP.out.1.env.errs (by omega)⟩
            rw [show hasL b x = true from HHb.out] at HN
            go_wp2_with fail
            refine HN.out.mono ?_
            clear HN
            rintro e w32 ⟨rfl, hb⟩
            have HQ6 := HQ5.trans (hb.mono HQ5.size)
            obtain ⟨HP'⟩ : Nonempty (Hid (BIn w32 et eb es a b pa pb ∧ Pairs w32 qL LL ∧ Pairs w32 qag Lag ∧ Pairs w32 qor Lor ∧ Pairs w32 qand Land ∧ Pairs w32 qone Lone ∧ Pairs w32 qtwo Ltwo ∧ True)) := ⟨⟨HP.out.1.below hb, HP.out.2.1.below hb, HP.out.2.2.1.below hb, HP.out.2.2.2.1.below hb, HP.out.2.2.2.2.1.below hb, HP.out.2.2.2.2.2.1.below hb, HP.out.2.2.2.2.2.2.1.below hb, trivial⟩⟩
            have hbt' := hbt.trans (hb.mono hbt.size)
            clear HP hb hbt
            have HP := HP'
            have hbt := hbt'
            clear HP' hbt'
            clear HQ5
            go_wp2_with fail
            go_meet
            exact ⟨rfl, _, rfl, HQ6⟩
          | false =>
            have HQ0 := HQ.out
            obtain ⟨HN⟩ : Nonempty (Hid (Calls _ _ _ _ _)) := ⟨hasSet_any Land qand cand x et eb es w26 HP.out.2.2.2.2.1 HP.out.1.env.errs (by have := HSand.out.2.2.1; omega)⟩
            rw [show hasL Land x = false from HHand.out] at HN
            go_wp2_with fail
            refine HN.out.mono ?_
            clear HN
            rintro e w27 ⟨rfl, hb⟩
            have HQ1 := HQ0.trans (hb.mono HQ0.size)
            obtain ⟨HP'⟩ : Nonempty (Hid (BIn w27 et eb es a b pa pb ∧ Pairs w27 qL LL ∧ Pairs w27 qag Lag ∧ Pairs w27 qor Lor ∧ Pairs w27 qand Land ∧ Pairs w27 qone Lone ∧ Pairs w27 qtwo Ltwo ∧ True)) := ⟨⟨HP.out.1.below hb, HP.out.2.1.below hb, HP.out.2.2.1.below hb, HP.out.2.2.2.1.below hb, HP.out.2.2.2.2.1.below hb, HP.out.2.2.2.2.2.1.below hb, HP.out.2.2.2.2.2.2.1.below hb, trivial⟩⟩
            have hbt' := hbt.trans (hb.mono hbt.size)
            clear HP hb hbt
            have HP := HP'
            have hbt := hbt'
            clear HP' hbt'
            clear HQ0
            obtain ⟨HN⟩ : Nonempty (Hid (Calls _ _ _ _ _)) := ⟨hasSet_any a pa ca x et eb es w27 HP.out.1.pa HP.out.1.env.errs (by omega)⟩
            rw [show hasL a x = true from HHa.out] at HN
            go_wp2_with fail
            refine HN.out.mono ?_
            clear HN
            rintro e w28 ⟨rfl, hb⟩
            have HQ2 := HQ1.trans (hb.mono HQ1.size)
            obtain ⟨HP'⟩ : Nonempty (Hid (BIn w28 et eb es a b pa pb ∧ Pairs w28 qL LL ∧ Pairs w28 qag Lag ∧ Pairs w28 qor Lor ∧ Pairs w28 qand Land ∧ Pairs w28 qone Lone ∧ Pairs w28 qtwo Ltwo ∧ True)) := ⟨⟨HP.out.1.below hb, HP.out.2.1.below hb, HP.out.2.2.1.below hb, HP.out.2.2.2.1.below hb, HP.out.2.2.2.2.1.below hb, HP.out.2.2.2.2.2.1.below hb, HP.out.2.2.2.2.2.2.1.below hb, trivial⟩⟩
            have hbt' := hbt.trans (hb.mono hbt.size)
            clear HP hb hbt
            have HP := HP'
            have hbt := hbt'
            clear HP' hbt'
            clear HQ1
            obtain ⟨HN⟩ : Nonempty (Hid (Calls _ _ _ _ _)) := ⟨hasSet_any b pb cb x et eb es w28 HP.out.1.pb HP.out.1.env.errs (by omega)⟩
            rw [show hasL b x = false from HHb.out] at HN
            go_wp2_with fail
            refine HN.out.mono ?_
            clear HN
            rintro e w29 ⟨rfl, hb⟩
            have HQ3 := HQ2.trans (hb.mono HQ2.size)
            obtain ⟨HP'⟩ : Nonempty (Hid (BIn w29 et eb es a b pa pb ∧ Pairs w29 qL LL ∧ Pairs w29 qag Lag ∧ Pairs w29 qor Lor ∧ Pairs w29 qand Land ∧ Pairs w29 qone Lone ∧ Pairs w29 qtwo Ltwo ∧ True)) := ⟨⟨HP.out.1.below hb, HP.out.2.1.below hb, HP.out.2.2.1.below hb, HP.out.2.2.2.1.below hb, HP.out.2.2.2.2.1.below hb, HP.out.2.2.2.2.2.1.below hb, HP.out.2.2.2.2.2.2.1.below hb, trivial⟩⟩
            have hbt' := hbt.trans (hb.mono hbt.size)
            clear HP hb hbt
            have HP := HP'
            have hbt := hbt'
            clear HP' hbt'
            clear HQ2
            obtain ⟨HN⟩ : Nonempty (Hid (Calls _ _ _ _ _)) := ⟨hasSet_any Lone qone cone x et eb es w29 HP.out.2.2.2.2.2.1 HP.out.1.env.errs (by have := HSone.out.2.2.1; omega)⟩
            rw [show hasL Lone x = true from HHone.out] at HN
            go_wp2_with fail
            refine HN.out.mono ?_
            clear HN
            rintro e w30 ⟨rfl, hb⟩
            have HQ4 := HQ3.trans (hb.mono HQ3.size)
            obtain ⟨HP'⟩ : Nonempty (Hid (BIn w30 et eb es a b pa pb ∧ Pairs w30 qL LL ∧ Pairs w30 qag Lag ∧ Pairs w30 qor Lor ∧ Pairs w30 qand Land ∧ Pairs w30 qone Lone ∧ Pairs w30 qtwo Ltwo ∧ True)) := ⟨⟨HP.out.1.below hb, HP.out.2.1.below hb, HP.out.2.2.1.below hb, HP.out.2.2.2.1.below hb, HP.out.2.2.2.2.1.below hb, HP.out.2.2.2.2.2.1.below hb, HP.out.2.2.2.2.2.2.1.below hb, trivial⟩⟩
            have hbt' := hbt.trans (hb.mono hbt.size)
            clear HP hb hbt
            have HP := HP'
            have hbt := hbt'
            clear HP' hbt'
            clear HQ3
            obtain ⟨HN⟩ : Nonempty (Hid (Calls _ _ _ _ _)) := ⟨hasSet_any a pa ca x et eb es w30 HP.out.1.pa HP.out.1.env.errs (by omega)⟩
            rw [show hasL a x = true from HHa.out] at HN
            go_wp2_with fail
            refine HN.out.mono ?_
            clear HN
            rintro e w31 ⟨rfl, hb⟩
            have HQ5 := HQ4.trans (hb.mono HQ4.size)
            obtain ⟨HP'⟩ : Nonempty (Hid (BIn w31 et eb es a b pa pb ∧ Pairs w31 qL LL ∧ Pairs w31 qag Lag ∧ Pairs w31 qor Lor ∧ Pairs w31 qand Land ∧ Pairs w31 qone Lone ∧ Pairs w31 qtwo Ltwo ∧ True)) := ⟨⟨HP.out.1.below hb, HP.out.2.1.below hb, HP.out.2.2.1.below hb, HP.out.2.2.2.1.below hb, HP.out.2.2.2.2.1.below hb, HP.out.2.2.2.2.2.1.below hb, HP.out.2.2.2.2.2.2.1.below hb, trivial⟩⟩
            have hbt' := hbt.trans (hb.mono hbt.size)
            clear HP hb hbt
            have HP := HP'
            have hbt := hbt'
            clear HP' hbt'
            clear HQ4
            obtain ⟨HN⟩ : Nonempty (Hid (Calls _ _ _ _ _)) := ⟨hasSet_any b pb cb x et eb es w31 HP.out.1.pb HP.out.1.env.errs (by omega)⟩
            rw [show hasL b x = false from HHb.out] at HN
            go_wp2_with fail
            refine HN.out.mono ?_
            clear HN
            rintro e w32 ⟨rfl, hb⟩
            have HQ6 := HQ5.trans (hb.mono HQ5.size)
            obtain ⟨HP'⟩ : Nonempty (Hid (BIn w32 et eb es a b pa pb ∧ Pairs w32 qL LL ∧ Pairs w32 qag Lag ∧ Pairs w32 qor Lor ∧ Pairs w32 qand Land ∧ Pairs w32 qone Lone ∧ Pairs w32 qtwo Ltwo ∧ True)) := ⟨⟨HP.out.1.below hb, HP.out.2.1.below hb, HP.out.2.2.1.below hb, HP.out.2.2.2.1.below hb, HP.out.2.2.2.2.1.below hb, HP.out.2.2.2.2.2.1.below hb, HP.out.2.2.2.2.2.2.1.below hb, trivial⟩⟩
            have hbt' := hbt.trans (hb.mono hbt.size)
            clear HP hb hbt
            have HP := HP'
            have hbt := hbt'
            clear HP' hbt'
            clear HQ5
            go_wp2_with fail
            go_meet
            exact ⟨rfl, _, rfl, HQ6⟩
        | false =>
          cases hy with
          | true =>
            have HQ0 := HQ.out
            obtain ⟨HN⟩ : Nonempty (Hid (Calls _ _ _ _ _)) := ⟨hasSet_any Land qand cand x et eb es w26 HP.out.2.2.2.2.1 HP.out.1.env.errs (by have := HSand.out.2.2.1; omega)⟩
            rw [show hasL Land x = false from HHand.out] at HN
            go_wp2_with fail
            refine HN.out.mono ?_
            clear HN
            rintro e w27 ⟨rfl, hb⟩
            have HQ1 := HQ0.trans (hb.mono HQ0.size)
            obtain ⟨HP'⟩ : Nonempty (Hid (BIn w27 et eb es a b pa pb ∧ Pairs w27 qL LL ∧ Pairs w27 qag Lag ∧ Pairs w27 qor Lor ∧ Pairs w27 qand Land ∧ Pairs w27 qone Lone ∧ Pairs w27 qtwo Ltwo ∧ True)) := ⟨⟨HP.out.1.below hb, HP.out.2.1.below hb, HP.out.2.2.1.below hb, HP.out.2.2.2.1.below hb, HP.out.2.2.2.2.1.below hb, HP.out.2.2.2.2.2.1.below hb, HP.out.2.2.2.2.2.2.1.below hb, trivial⟩⟩
            have hbt' := hbt.trans (hb.mono hbt.size)
            clear HP hb hbt
            have HP := HP'
            have hbt := hbt'
            clear HP' hbt'
            clear HQ0
            obtain ⟨HN⟩ : Nonempty (Hid (Calls _ _ _ _ _)) := ⟨hasSet_any a pa ca x et eb es w27 HP.out.1.pa HP.out.1.env.errs (by omega)⟩
            rw [show hasL a x = false from HHa.out] at HN
            go_wp2_with fail
            refine HN.out.mono ?_
            clear HN
            rintro e w28 ⟨rfl, hb⟩
            have HQ2 := HQ1.trans (hb.mono HQ1.size)
            obtain ⟨HP'⟩ : Nonempty (Hid (BIn w28 et eb es a b pa pb ∧ Pairs w28 qL LL ∧ Pairs w28 qag Lag ∧ Pairs w28 qor Lor ∧ Pairs w28 qand Land ∧ Pairs w28 qone Lone ∧ Pairs w28 qtwo Ltwo ∧ True)) := ⟨⟨HP.out.1.below hb, HP.out.2.1.below hb, HP.out.2.2.1.below hb, HP.out.2.2.2.1.below hb, HP.out.2.2.2.2.1.below hb, HP.out.2.2.2.2.2.1.below hb, HP.out.2.2.2.2.2.2.1.below hb, trivial⟩⟩
            have hbt' := hbt.trans (hb.mono hbt.size)
            clear HP hb hbt
            have HP := HP'
            have hbt := hbt'
            clear HP' hbt'
            clear HQ1
            obtain ⟨HN⟩ : Nonempty (Hid (Calls _ _ _ _ _)) := ⟨hasSet_any Lone qone cone x et eb es w28 HP.out.2.2.2.2.2.1 HP.out.1.env.errs (by have := HSone.out.2.2.1; omega)⟩
            rw [show hasL Lone x = false from HHone.out] at HN
            go_wp2_with fail
            refine HN.out.mono ?_
            clear HN
            rintro e w29 ⟨rfl, hb⟩
            have HQ3 := HQ2.trans (hb.mono HQ2.size)
            obtain ⟨HP'⟩ : Nonempty (Hid (BIn w29 et eb es a b pa pb ∧ Pairs w29 qL LL ∧ Pairs w29 qag Lag ∧ Pairs w29 qor Lor ∧ Pairs w29 qand Land ∧ Pairs w29 qone Lone ∧ Pairs w29 qtwo Ltwo ∧ True)) := ⟨⟨HP.out.1.below hb, HP.out.2.1.below hb, HP.out.2.2.1.below hb, HP.out.2.2.2.1.below hb, HP.out.2.2.2.2.1.below hb, HP.out.2.2.2.2.2.1.below hb, HP.out.2.2.2.2.2.2.1.below hb, trivial⟩⟩
            have hbt' := hbt.trans (hb.mono hbt.size)
            clear HP hb hbt
            have HP := HP'
            have hbt := hbt'
            clear HP' hbt'
            clear HQ2
            obtain ⟨HN⟩ : Nonempty (Hid (Calls _ _ _ _ _)) := ⟨hasSet_any a pa ca x et eb es w29 HP.out.1.pa HP.out.1.env.errs (by omega)⟩
            rw [show hasL a x = false from HHa.out] at HN
            go_wp2_with fail
            refine HN.out.mono ?_
            clear HN
            rintro e w30 ⟨rfl, hb⟩
            have HQ4 := HQ3.trans (hb.mono HQ3.size)
            obtain ⟨HP'⟩ : Nonempty (Hid (BIn w30 et eb es a b pa pb ∧ Pairs w30 qL LL ∧ Pairs w30 qag Lag ∧ Pairs w30 qor Lor ∧ Pairs w30 qand Land ∧ Pairs w30 qone Lone ∧ Pairs w30 qtwo Ltwo ∧ True)) := ⟨⟨HP.out.1.below hb, HP.out.2.1.below hb, HP.out.2.2.1.below hb, HP.out.2.2.2.1.below hb, HP.out.2.2.2.2.1.below hb, HP.out.2.2.2.2.2.1.below hb, HP.out.2.2.2.2.2.2.1.below hb, trivial⟩⟩
            have hbt' := hbt.trans (hb.mono hbt.size)
            clear HP hb hbt
            have HP := HP'
            have hbt := hbt'
            clear HP' hbt'
            clear HQ3
            go_wp2_with fail
            go_meet
            exact ⟨rfl, _, rfl, HQ4⟩
          | false =>
            have HQ0 := HQ.out
            obtain ⟨HN⟩ : Nonempty (Hid (Calls _ _ _ _ _)) := ⟨hasSet_any Land qand cand x et eb es w26 HP.out.2.2.2.2.1 HP.out.1.env.errs (by have := HSand.out.2.2.1; omega)⟩
            rw [show hasL Land x = false from HHand.out] at HN
            go_wp2_with fail
            refine HN.out.mono ?_
            clear HN
            rintro e w27 ⟨rfl, hb⟩
            have HQ1 := HQ0.trans (hb.mono HQ0.size)
            obtain ⟨HP'⟩ : Nonempty (Hid (BIn w27 et eb es a b pa pb ∧ Pairs w27 qL LL ∧ Pairs w27 qag Lag ∧ Pairs w27 qor Lor ∧ Pairs w27 qand Land ∧ Pairs w27 qone Lone ∧ Pairs w27 qtwo Ltwo ∧ True)) := ⟨⟨HP.out.1.below hb, HP.out.2.1.below hb, HP.out.2.2.1.below hb, HP.out.2.2.2.1.below hb, HP.out.2.2.2.2.1.below hb, HP.out.2.2.2.2.2.1.below hb, HP.out.2.2.2.2.2.2.1.below hb, trivial⟩⟩
            have hbt' := hbt.trans (hb.mono hbt.size)
            clear HP hb hbt
            have HP := HP'
            have hbt := hbt'
            clear HP' hbt'
            clear HQ0
            obtain ⟨HN⟩ : Nonempty (Hid (Calls _ _ _ _ _)) := ⟨hasSet_any a pa ca x et eb es w27 HP.out.1.pa HP.out.1.env.errs (by omega)⟩
            rw [show hasL a x = false from HHa.out] at HN
            go_wp2_with fail
            refine HN.out.mono ?_
            clear HN
            rintro e w28 ⟨rfl, hb⟩
            have HQ2 := HQ1.trans (hb.mono HQ1.size)
            obtain ⟨HP'⟩ : Nonempty (Hid (BIn w28 et eb es a b pa pb ∧ Pairs w28 qL LL ∧ Pairs w28 qag Lag ∧ Pairs w28 qor Lor ∧ Pairs w28 qand Land ∧ Pairs w28 qone Lone ∧ Pairs w28 qtwo Ltwo ∧ True)) := ⟨⟨HP.out.1.below hb, HP.out.2.1.below hb, HP.out.2.2.1.below hb, HP.out.2.2.2.1.below hb, HP.out.2.2.2.2.1.below hb, HP.out.2.2.2.2.2.1.below hb, HP.out.2.2.2.2.2.2.1.below hb, trivial⟩⟩
            have hbt' := hbt.trans (hb.mono hbt.size)
            clear HP hb hbt
            have HP := HP'
            have hbt := hbt'
            clear HP' hbt'
            clear HQ1
            obtain ⟨HN⟩ : Nonempty (Hid (Calls _ _ _ _ _)) := ⟨hasSet_any Lone qone cone x et eb es w28 HP.out.2.2.2.2.2.1 HP.out.1.env.errs (by have := HSone.out.2.2.1; omega)⟩
            rw [show hasL Lone x = false from HHone.out] at HN
            go_wp2_with fail
            refine HN.out.mono ?_
            clear HN
            rintro e w29 ⟨rfl, hb⟩
            have HQ3 := HQ2.trans (hb.mono HQ2.size)
            obtain ⟨HP'⟩ : Nonempty (Hid (BIn w29 et eb es a b pa pb ∧ Pairs w29 qL LL ∧ Pairs w29 qag Lag ∧ Pairs w29 qor Lor ∧ Pairs w29 qand Land ∧ Pairs w29 qone Lone ∧ Pairs w29 qtwo Ltwo ∧ True)) := ⟨⟨HP.out.1.below hb, HP.out.2.1.below hb, HP.out.2.2.1.below hb, HP.out.2.2.2.1.below hb, HP.out.2.2.2.2.1.below hb, HP.out.2.2.2.2.2.1.below hb, HP.out.2.2.2.2.2.2.1.below hb, trivial⟩⟩
            have hbt' := hbt.trans (hb.mono hbt.size)
            clear HP hb hbt
            have HP := HP'
            have hbt := hbt'
            clear HP' hbt'
            clear HQ2
            obtain ⟨HN⟩ : Nonempty (Hid (Calls _ _ _ _ _)) := ⟨hasSet_any a pa ca x et eb es w29 HP.out.1.pa HP.out.1.env.errs (by omega)⟩
            rw [show hasL a x = false from HHa.out] at HN
            go_wp2_with fail
            refine HN.out.mono ?_
            clear HN
            rintro e w30 ⟨rfl, hb⟩
            have HQ4 := HQ3.trans (hb.mono HQ3.size)
            obtain ⟨HP'⟩ : Nonempty (Hid (BIn w30 et eb es a b pa pb ∧ Pairs w30 qL LL ∧ Pairs w30 qag Lag ∧ Pairs w30 qor Lor ∧ Pairs w30 qand Land ∧ Pairs w30 qone Lone ∧ Pairs w30 qtwo Ltwo ∧ True)) := ⟨⟨HP.out.1.below hb, HP.out.2.1.below hb, HP.out.2.2.1.below hb, HP.out.2.2.2.1.below hb, HP.out.2.2.2.2.1.below hb, HP.out.2.2.2.2.2.1.below hb, HP.out.2.2.2.2.2.2.1.below hb, trivial⟩⟩
            have hbt' := hbt.trans (hb.mono hbt.size)
            clear HP hb hbt
            have HP := HP'
            have hbt := hbt'
            clear HP' hbt'
            clear HQ3
            go_wp2_with fail
            go_meet
            exact ⟨rfl, _, rfl, HQ4⟩
      case rest =>
        as_aux_lemma =>
        obtain ⟨rfl, wx, hwx, hb⟩ := hcut
        subst hwx
        obtain ⟨HP'⟩ : Nonempty (Hid (BIn wx et eb es a b pa pb ∧ Pairs wx qL LL ∧ Pairs wx qag Lag ∧ Pairs wx qor Lor ∧ Pairs wx qand Land ∧ Pairs wx qone Lone ∧ Pairs wx qtwo Ltwo ∧ True)) := ⟨⟨HP.out.1.below hb, HP.out.2.1.below hb, HP.out.2.2.1.below hb, HP.out.2.2.2.1.below hb, HP.out.2.2.2.2.1.below hb, HP.out.2.2.2.2.2.1.below hb, HP.out.2.2.2.2.2.2.1.below hb, trivial⟩⟩
        have hbt' := hbt.trans (hb.mono hbt.size)
        clear HP hb hbt
        have HP := HP'
        have hbt := hbt'
        clear HP' hbt'
        obtain ⟨HN⟩ : Nonempty (Hid (Calls _ _ _ _ _)) := ⟨ownPrefixes_any Land qand cand wx HP.out.2.2.2.2.1 HSand.out.2.2.2 (by have := HSand.out.2.2.1; omega)⟩
        go_wp2_with fail
        refine HN.out.mono ?_
        clear HN
        rintro e w41 ⟨⟨v41, rfl, hown⟩, hb⟩
        have hsz41 := hb.size
        have hbx41 := hb
        clear hb
        obtain ⟨B1, hB1⟩ : ∃ B, Hid (wx.heap.size = B) := ⟨_, show _ = _ from rfl⟩
        rw [show wx.heap.size = B1 from hB1.out] at hown hsz41
        obtain ⟨O1, HO1⟩ : ∃ O', Hid (Land ++ Lone = O') := ⟨_, show _ = _ from rfl⟩
        obtain ⟨O2, HO2⟩ : ∃ O', Hid (O1 ++ Ltwo = O') := ⟨_, show _ = _ from rfl⟩
        have hl1 := HSand.out.2.2.1
        have hl2 := HSone.out.2.2.1
        have hl3 := HStwo.out.2.2.1
        have hlO1 : O1.length = Land.length + Lone.length := by rw [← HO1.out, List.length_append]
        have hlO2 : O2.length = O1.length + Ltwo.length := by rw [← HO2.out, List.length_append]
        have hlO1' : O1.length ≤ 8589934592 := by omega
        have hlO2' : O2.length ≤ 12884901888 := by omega
        clear hlO1 hlO2
        have hpone := HP.out.2.2.2.2.2.1.below hbx41
        go_wp2_with (at_builtin; refine wp_addAll rfl _ _ 60 rfl B1 36 i0 Tryd.underlying60 hi hz0 hz1 hz2 _ Land rfl hown qone Lone cone rfl HSone.out.2.2.2 hpone O1 HO1 (by omega) hsz41 ?_)
        intro v42 w42 hown42 hb42
        have hbx42 : Below wx.heap.size wx w42 := hbx41.trans (by rw [show wx.heap.size = B1 from hB1.out]; exact hb42)
        have hsz42 : B1 ≤ w42.heap.size := Nat.le_trans hsz41 hb42.size
        have hptwo := HP.out.2.2.2.2.2.2.1.below hbx42
        clear hown hb42 hbx41 hpone hsz41
        go_wp2_with (at_builtin; refine wp_addAll rfl _ _ 60 rfl B1 36 i0 Tryd.underlying60 hi hz0 hz1 hz2 _ O1 rfl hown42 qtwo Ltwo ctwo rfl HStwo.out.2.2.2 hptwo O2 HO2 (by omega) hsz42 ?_)
        intro v43 w43 hown43 hb43
        have hb : Below wx.heap.size wx w43 := hbx42.trans (by rw [show wx.heap.size = B1 from hB1.out]; exact hb43)
        obtain ⟨qO, cO, rfl, hpO⟩ := own_get hown43
        clear hown42 hown43 hb43 hbx42 hptwo hsz42 hB1
        obtain ⟨HP'⟩ : Nonempty (Hid (BIn w43 et eb es a b pa pb ∧ Pairs w43 qL LL ∧ Pairs w43 qag Lag ∧ Pairs w43 qor Lor ∧ Pairs w43 qand Land ∧ Pairs w43 qone Lone ∧ Pairs w43 qtwo Ltwo ∧ True)) := ⟨⟨HP.out.1.below hb, HP.out.2.1.below hb, HP.out.2.2.1.below hb, HP.out.2.2.2.1.below hb, HP.out.2.2.2.2.1.below hb, HP.out.2.2.2.2.2.1.below hb, HP.out.2.2.2.2.2.2.1.below hb, trivial⟩⟩
        have hbt' := hbt.trans (hb.mono hbt.size)
        clear HP hb hbt
        have HP := HP'
        have hbt := hbt'
        clear HP' hbt'
        obtain ⟨HPO⟩ : Nonempty (Hid (Pairs w43 qO O2)) := ⟨hpO⟩
        clear hpO
        have hOin : ∀ z, inPB O2 z = inPB Lor z := fun z => by rw [← HO2.out, ← HO1.out, inPB_append, inPB_append, HSand.out.2.1, HSone.out.2.1, HStwo.out.2.1, HSor.out.2.1]; unfold askB; cases inPB a z <;> cases inPB b z <;> rfl
        have hOr : Rights O2 := fun p hp => by
          rw [← HO2.out, ← HO1.out] at hp
          rcases List.mem_append.1 hp with hp | hp
          · rcases List.mem_append.1 hp with hp | hp
            · exact HSand.out.1.right p hp
            · exact HSone.out.1.right p hp
          · exact HStwo.out.1.right p hp
        obtain ⟨N, hN⟩ : ∃ N : Nat, N = 4294967296 := ⟨_, rfl⟩
        have hsum : sumP O2 = (cnt (inPB Lor) N : Int) := by
          rw [← HO2.out, ← HO1.out, sumP_append, sumP_append, ← cnt_np N hN Land HSand.out.1, ← cnt_np N hN Lone HSone.out.1, ← cnt_np N hN Ltwo HStwo.out.1]
          have e1 := cnt_or (P := inPB (Land ++ Lone)) (Q := inPB Land) (R := inPB Lone) (fun z => inPB_append _ _ z) (fun z => by rw [HSand.out.2.1, HSone.out.2.1]; unfold askB; cases inPB a z <;> cases inPB b z <;> simp) N
          have e2 := cnt_or (P := inPB Lor) (Q := inPB (Land ++ Lone)) (R := inPB Ltwo) (fun z => by rw [inPB_append, HSand.out.2.1, HSone.out.2.1, HStwo.out.2.1, HSor.out.2.1]; unfold askB; cases inPB a z <;> cases inPB b z <;> rfl) (fun z => by rw [inPB_append, HSand.out.2.1, HSone.out.2.1, HStwo.out.2.1]; unfold askB; cases inPB a z <;> cases inPB b z <;> simp) N
          rw [e2, e1]
          omega
        obtain ⟨s, hs⟩ : ∃ s : Int, Hid ((cnt (inPB Lor) N : Int) = s) := ⟨_, show _ = _ from rfl⟩
        have hs0 : 0 ≤ s ∧ s ≤ 4294967296 := by rw [← hs.out]; have := cnt_le (inPB Lor) N; omega
        obtain ⟨HSUM⟩ : Nonempty (Hid (sumP O2 = s ∧ Rights O2 ∧ (∀ z, inPB O2 z = inPB Lor z) ∧ (cnt (inPB O2) N : Int) = s ∧ (cnt (inPB Lor) N : Int) = s ∧ N = 4294967296)) := ⟨⟨by rw [hsum]; exact hs.out, hOr, hOin, by rw [cnt_congr hOin]; exact hs.out, hs.out, hN⟩⟩
        clear hsum hOr hOin hs
        have hNx : Hid (N = 4294967296) := hN
        clear hN
        obtain ⟨HN⟩ : Nonempty (Hid (Calls _ _ _ _ _)) := ⟨norm_any O2 O2.length (rights_to HSUM.out.2.1) qO cO et eb es w43 HP.out.1.env HPO.out (by omega)⟩
        go_wp2_with fail
        refine HN.out.mono ?_
        clear HN
        rintro e w44 ⟨⟨-, Lback, v, rfl, hG⟩ | ⟨v, -, hF⟩, hb⟩
        rotate_left
        · exact (no_fault hF).elim
        obtain ⟨HPO2⟩ : Nonempty (Hid (Pairs w44 qO O2)) := ⟨HPO.out.below hb⟩
        clear HPO
        obtain ⟨qback, cback, rfl, hpN, hs1, hs2, hs3, hs4⟩ := hG.get'
        obtain ⟨HSback⟩ : Nonempty (Hid (NP Lback ∧ (∀ x, inPB Lback x = inPB O2 x) ∧ Lback.length ≤ 4294967296 ∧ Kind (.slice qback Lback.length cback) Lback.length)) := ⟨⟨hs1, hs2, hs3, hs4⟩⟩
        clear hG hs1 hs2 hs3 hs4
        obtain ⟨HP'⟩ : Nonempty (Hid (BIn w44 et eb es a b pa pb ∧ Pairs w44 qL LL ∧ Pairs w44 qag Lag ∧ Pairs w44 qor Lor ∧ Pairs w44 qand Land ∧ Pairs w44 qone Lone ∧ Pairs w44 qtwo Ltwo ∧ Pairs w44 qback Lback ∧ True)) := ⟨⟨HP.out.1.below hb, HP.out.2.1.below hb, HP.out.2.2.1.below hb, HP.out.2.2.2.1.below hb, HP.out.2.2.2.2.1.below hb, HP.out.2.2.2.2.2.1.below hb, HP.out.2.2.2.2.2.2.1.below hb, hpN, trivial⟩⟩
        have hbt' := hbt.trans (hb.mono hbt.size)
        clear HP hb hbt hpN
        have HP := HP'
        have hbt := hbt'
        clear HP' hbt'
        obtain ⟨HN⟩ : Nonempty (Hid (Calls _ _ _ _ _)) := ⟨count_any Lor Lor.length (rights_to HSor.out.1.right) qor cor et eb es w44 HP.out.1.env HP.out.2.2.2.1 (by have := HSor.out.2.2.1; omega)⟩
        go_wp2_with fail
        refine HN.out.mono ?_
        clear HN
        rintro e w45 ⟨⟨-, s1, rfl, hs1⟩ | ⟨v, -, hF⟩, hb⟩
        rotate_left
        · exact (no_fault hF).elim
        have hs1' : s1 = s := by rw [hs1 N hNx.out]; exact HSUM.out.2.2.2.2.1
        subst hs1'
        obtain ⟨HPO⟩ : Nonempty (Hid (Pairs w45 qO O2)) := ⟨HPO2.out.below hb⟩
        clear HPO2 hs1
        obtain ⟨HP'⟩ : Nonempty (Hid (BIn w45 et eb es a b pa pb ∧ Pairs w45 qL LL ∧ Pairs w45 qag Lag ∧ Pairs w45 qor Lor ∧ Pairs w45 qand Land ∧ Pairs w45 qone Lone ∧ Pairs w45 qtwo Ltwo ∧ Pairs w45 qback Lback ∧ True)) := ⟨⟨HP.out.1.below hb, HP.out.2.1.below hb, HP.out.2.2.1.below hb, HP.out.2.2.2.1.below hb, HP.out.2.2.2.2.1.below hb, HP.out.2.2.2.2.2.1.below hb, HP.out.2.2.2.2.2.2.1.below hb, HP.out.2.2.2.2.2.2.2.1.below hb, trivial⟩⟩
        have hbt' := hbt.trans (hb.mono hbt.size)
        clear HP hb hbt
        have HP := HP'
        have hbt := hbt'
        clear HP' hbt'
        obtain ⟨HN⟩ : Nonempty (Hid (Calls _ _ _ _ _)) := ⟨count_any O2 O2.length (rights_to HSUM.out.2.1) qO cO et eb es w45 HP.out.1.env HPO.out (by omega)⟩
        go_wp2_with fail
        refine HN.out.mono ?_
        clear HN
        rintro e w46 ⟨⟨-, s2, rfl, hs2⟩ | ⟨v, -, hF⟩, hb⟩
        rotate_left
        · exact (no_fault hF).elim
        have hs2' : s2 = s1 := by rw [hs2 N hNx.out]; exact HSUM.out.2.2.2.1
        subst hs2'
        obtain ⟨HPO2⟩ : Nonempty (Hid (Pairs w46 qO O2)) := ⟨HPO.out.below hb⟩
        clear HPO hs2
        obtain ⟨HP'⟩ : Nonempty (Hid (BIn w46 et eb es a b pa pb ∧ Pairs w46 qL LL ∧ Pairs w46 qag Lag ∧ Pairs w46 qor Lor ∧ Pairs w46 qand Land ∧ Pairs w46 qone Lone ∧ Pairs w46 qtwo Ltwo ∧ Pairs w46 qback Lback ∧ True)) := ⟨⟨HP.out.1.below hb, HP.out.2.1.below hb, HP.out.2.2.1.below hb, HP.out.2.2.2.1.below hb, HP.out.2.2.2.2.1.below hb, HP.out.2.2.2.2.2.1.below hb, HP.out.2.2.2.2.2.2.1.below hb, HP.out.2.2.2.2.2.2.2.1.below hb, trivial⟩⟩
        have hbt' := hbt.trans (hb.mono hbt.size)
        clear HP hb hbt
        have HP := HP'
        have hbt := hbt'
        clear HP' hbt'
        have HPO := HPO2
        clear HPO2
        go_wp2
        go_loopw [31, 32] (fun t z wr => ∃ k : Nat, z = .int .i64 k ∧ t = .int .i64 (sumP (O2.take k)) ∧ k ≤ O2.length ∧ Below w46.heap.size w46 wr) (fun _ z _ => O2.length - (intOf z).toNat)
        case atStart => exact ⟨0, rfl, rfl, Nat.zero_le _, Below.refl _ _⟩
        case round =>
          clear hml hml'
          obtain ⟨k, rfl, rfl, hk, hbo⟩ := hrel
          by_cases hlt : k < O2.length
          · obtain ⟨b0, o0, hq0, d0, d1⟩ := HPO.out k hlt
            subst hq0
            have d0' := cell_kept hbo d0
            have d1' := cell_kept hbo d1
            have hr := HSUM.out.2.1 _ (List.getElem_mem hlt)
            have hst := sumP_step O2 k hlt
            have hn0 := sumP_nonneg (O2.take k)
            have hn1 := sumP_take O2 (k + 1)
            rw [HSUM.out.1] at hn1
            obtain ⟨y0, hy0⟩ : ∃ y, Hid (O2[k].1 = y) := ⟨_, show _ = _ from rfl⟩
            obtain ⟨y1, hy1⟩ : ∃ y, Hid (O2[k].2 = y) := ⟨_, show _ = _ from rfl⟩
            obtain ⟨t, ht⟩ : ∃ t, Hid (sumP (O2.take k) = t) := ⟨_, show _ = _ from rfl⟩
            rw [show O2[k].1 = y0 from hy0.out] at d0' hr
            rw [show O2[k].2 = y1 from hy1.out] at d1' hr hst
            rw [show sumP (O2.take k) = t from ht.out] at hst hn0 ⊢
            obtain ⟨sz, hsz⟩ : ∃ z, Hid (sizeI y0 y1 = z) := ⟨_, show _ = _ from rfl⟩
            have hszp : pw y1 = sz := by rw [← hsz.out]; simp [sizeI, hr]
            rw [hszp] at hst
            have hpp := pw_pos y1
            rw [hszp] at hpp
            obtain ⟨HST⟩ : Nonempty (Hid (t + sz = sumP (O2.take (k + 1)))) := ⟨hst⟩
            rw [← hst] at hn1
            have hw : IntKind.i64.wrap (t + sz) = t + sz := wrapI _ (by omega) (by omega)
            have hlt' : (k : Int) < (O2.length : Int) := by omega
            obtain ⟨HN⟩ : Nonempty (Hid (Calls _ _ _ _ _)) := ⟨size_any y0 y1 et eb es wr (HP.out.1.below hbo).env.errs⟩
            rw [show sizeI y0 y1 = sz from hsz.out] at HN
            clear d0 d1 hst hszp hn1
            go_wp2_with fail
            refine HN.out.mono ?_
            clear HN
            rintro e ws ⟨rfl, hbs⟩
            have hbo2 := hbo.trans (hbs.mono hbo.size)
            clear hbs hbo d0' d1'
            go_wp2
            go_roundw
            case rel => exact ⟨k + 1, by go_num, by rw [HST.out], by omega, hbo2⟩
            case measure => simp [intOf]; omega
          · have hkO : sumP (O2.take k) = s2 := by rw [List.take_of_length_le (by omega)]; exact HSUM.out.1
            rw [hkO]
            have hnot : ¬ (k : Int) < (O2.length : Int) := by omega
            have hb := hbo
            clear hkO hbo
            obtain ⟨HP'⟩ : Nonempty (Hid (BIn wr et eb es a b pa pb ∧ Pairs wr qL LL ∧ Pairs wr qag Lag ∧ Pairs wr qor Lor ∧ Pairs wr qand Land ∧ Pairs wr qone Lone ∧ Pairs wr qtwo Ltwo ∧ Pairs wr qback Lback ∧ True)) := ⟨⟨HP.out.1.below hb, HP.out.2.1.below hb, HP.out.2.2.1.below hb, HP.out.2.2.2.1.below hb, HP.out.2.2.2.2.1.below hb, HP.out.2.2.2.2.2.1.below hb, HP.out.2.2.2.2.2.2.1.below hb, HP.out.2.2.2.2.2.2.2.1.below hb, trivial⟩⟩
            have hbt' := hbt.trans (hb.mono hbt.size)
            clear HP hb hbt
            have HP := HP'
            have hbt := hbt'
            clear HP' hbt'
            obtain ⟨HN⟩ : Nonempty (Hid (Calls _ _ _ _ _)) := ⟨samePrefixes_any Lback Lor qback qor cback cor wr HP.out.2.2.2.2.2.2.2.1 HP.out.2.2.2.1 (by have := HSback.out.2.2.1; omega)⟩
            have hsame : decide (Lback = Lor) = true := decide_eq_true (np_same HSback.out.1 HSor.out.1 (fun z => by rw [HSback.out.2.1, HSUM.out.2.2.1]))
            rw [hsame] at HN
            clear hsame
            go_wp2_with fail
            refine HN.out.mono ?_
            clear HN
            rintro e w47 ⟨rfl, hb⟩
            obtain ⟨HP'⟩ : Nonempty (Hid (BIn w47 et eb es a b pa pb ∧ Pairs w47 qL LL ∧ Pairs w47 qag Lag ∧ Pairs w47 qor Lor ∧ Pairs w47 qand Land ∧ Pairs w47 qone Lone ∧ Pairs w47 qtwo Ltwo ∧ Pairs w47 qback Lback ∧ True)) := ⟨⟨HP.out.1.below hb, HP.out.2.1.below hb, HP.out.2.2.1.below hb, HP.out.2.2.2.1.below hb, HP.out.2.2.2.2.1.below hb, HP.out.2.2.2.2.2.1.below hb, HP.out.2.2.2.2.2.2.1.below hb, HP.out.2.2.2.2.2.2.2.1.below hb, trivial⟩⟩
            have hbt' := hbt.trans (hb.mono hbt.size)
            clear HP hb hbt
            have HP := HP'
            have hbt := hbt'
            clear HP' hbt'
            go_wp2
            go_ret
            exact ⟨rfl, hbt⟩
end Go.Proofs.YthehpnhjfnenoaaDoor
