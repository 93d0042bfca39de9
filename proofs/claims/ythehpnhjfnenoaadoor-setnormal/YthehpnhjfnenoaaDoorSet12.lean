/-
  Package set's Has and Count, and the law's OwnPrefixes: what each returns.
-/
import Derived.Test.YthehpnhjfnenoaaDoorSetSame
import Derived.Test.YthehpnhjfnenoaaDoorOwnPref
import Derived.Laws.AppendOwnNone
namespace Go.Proofs.YthehpnhjfnenoaaDoor
open Go.RowKit

set_option maxHeartbeats 1000000 in
theorem hasC_any (a n x : Int) (b : Nat) (et eb es : Addr) (w : World) (hE : IpErrs w et eb es) (hc : w.cell? ⟨b, 0, none⟩ = some (.int .i64 x)) :
    Calls Tryd.prog 63 #[.agg #[.int .i64 a, .int .i64 n], .pointer (some ⟨b, 0, none⟩)] w fun e w' => e = .returned (.bool (hasB a n x)) ∧ Below w.heap.size w w' := by
  have hba := below_alloc w (.cells #[.int .i64 a, .int .i64 n] 36)
  obtain ⟨HH⟩ : Nonempty (Hid (Calls _ _ _ _ _)) := ⟨has_any a n x et eb es _ (hE.below hba)⟩
  have hblt := cell_lt' hc
  obtain ⟨r, hr⟩ : ∃ r, Hid (hasB a n x = r) := ⟨_, show _ = _ from rfl⟩
  rw [show hasB a n x = r from hr.out] at HH ⊢
  clear hE
  go_enter Tryd.func63, Tryd.ntmps63
  go_wp2_with fail
  refine HH.out.mono ?_
  rintro e w1 ⟨rfl, hb1⟩
  have hb := hba.trans (hb1.mono hba.size)
  go_wp2
  go_ret
  exact ⟨rfl, hb⟩
def hasL (L : List (Int × Int)) (x : Int) : Bool := L.any fun p => hasB p.1 p.2 x
theorem hasL_none {L : List (Int × Int)} {x : Int} (h : ∀ j (hj : j < L.length), hasB L[j].1 L[j].2 x = false) : hasL L x = false := by
  unfold hasL
  rw [List.any_eq_false]
  intro p hp
  obtain ⟨j, hj, rfl⟩ := List.getElem_of_mem hp
  simpa using h j hj
theorem hasL_some {L : List (Int × Int)} {x : Int} {j : Nat} (hj : j < L.length) (h : hasB L[j].1 L[j].2 x = true) : hasL L x = true := by
  unfold hasL
  rw [List.any_eq_true]
  exact ⟨_, List.getElem_mem hj, h⟩
set_option linter.unusedVariables false in
set_option maxRecDepth 100000 in
set_option maxHeartbeats 4000000 in
theorem indexFunc_any (L : List (Int × Int)) (p : Option Addr) (c : Nat) (x : Int) (b : Nat) (et eb es : Addr) (w : World) (hL : Pairs w p L) (hE : IpErrs w et eb es) (hc : w.cell? ⟨b, 0, none⟩ = some (.int .i64 x)) (hl : L.length ≤ 1099511627776) :
    Calls Tryd.prog 83 #[.slice p L.length c, .func (.func 63) #[] #[.pointer (some ⟨b, 0, none⟩)]] w fun e w' => (∃ r : Int, e = .returned (.int .i64 r) ∧ decide (0 ≤ r) = hasL L x) ∧ Below w.heap.size w w' := by
  obtain ⟨HL⟩ : Nonempty (Hid (Pairs w p L ∧ IpErrs w et eb es ∧ w.cell? ⟨b, 0, none⟩ = some (.int .i64 x))) := ⟨⟨hL, hE, hc⟩⟩
  clear hL hE hc
  go_enter Tryd.func83, Tryd.ntmps83
  go_wp2
  go_loopw [8] (fun z wr => ∃ k : Nat, z = .int .i64 k ∧ k ≤ L.length ∧ Hid (∀ j (hj : j < L.length), j < k → hasB L[j].1 L[j].2 x = false) ∧ Below w.heap.size w wr) (fun z _ => L.length - (intOf z).toNat)
  case atStart => exact ⟨0, rfl, Nat.zero_le _, fun j _ h => by omega, Below.refl _ _⟩
  case round =>
    obtain ⟨k, rfl, hk, HN, hb⟩ := hrel
    by_cases hlt : k < L.length
    · obtain ⟨b0, o0, rfl, c0, c1⟩ := HL.out.1 k hlt
      have c0' := cell_kept hb c0
      have c1' := cell_kept hb c1
      obtain ⟨HC⟩ : Nonempty (Hid (Calls _ _ _ _ _)) := ⟨hasC_any L[k].1 L[k].2 x b et eb es wr (HL.out.2.1.below hb) (cell_kept hb HL.out.2.2)⟩
      obtain ⟨a, ha⟩ : ∃ a, Hid (L[k].1 = a) := ⟨_, show _ = _ from rfl⟩
      obtain ⟨n, hn⟩ : ∃ n, Hid (L[k].2 = n) := ⟨_, show _ = _ from rfl⟩
      obtain ⟨r, hr⟩ : ∃ r, Hid (hasB L[k].1 L[k].2 x = r) := ⟨_, show _ = _ from rfl⟩
      rw [show hasB L[k].1 L[k].2 x = r from hr.out] at HC
      rw [show L[k].1 = a from ha.out] at c0' HC
      rw [show L[k].2 = n from hn.out] at c1' HC
      clear c0 c1
      go_wp2_with fail
      refine HC.out.mono ?_
      rintro e w1 ⟨rfl, hb1⟩
      have hb2 := hb.trans (hb1.mono hb.size)
      cases r with
      | true =>
        obtain ⟨HT⟩ : Nonempty (Hid (hasL L x = true)) := ⟨hasL_some hlt hr.out⟩
        clear HC hb hb1 c0' c1'
        go_wp2
        go_ret
        exact ⟨⟨k, rfl, by rw [HT.out]; exact decide_eq_true (by omega)⟩, hb2⟩
      | false =>
        clear HC hb hb1 c0' c1'
        go_wp2
        go_roundw
        case rel =>
          refine ⟨k + 1, by go_num, by omega, fun j hj hjk => ?_, hb2⟩
          by_cases he : j = k
          · subst he; exact hr.out
          · exact HN.out j hj (by omega)
        case measure => simp [intOf]; omega
    · obtain ⟨HT⟩ : Nonempty (Hid (hasL L x = false)) := ⟨hasL_none (fun j hj => HN.out j hj (by omega))⟩
      go_wp2
      go_ret
      exact ⟨⟨-1, rfl, by rw [HT.out]; decide⟩, hb⟩
set_option maxHeartbeats 1000000 in
theorem hasSet_any (L : List (Int × Int)) (p : Option Addr) (c : Nat) (x : Int) (et eb es : Addr) (w : World) (hL : Pairs w p L) (hE : IpErrs w et eb es) (hl : L.length ≤ 1099511627776) :
    Calls Tryd.prog 38 #[.slice p L.length c, .int .i64 x] w fun e w' => e = .returned (.bool (hasL L x)) ∧ Below w.heap.size w w' := by
  have hba := below_alloc w (.cells #[.int .i64 x] 3)
  have hI := indexFunc_any L p c x w.heap.size et eb es (w.alloc (.cells #[.int .i64 x] 3)) (hL.below hba) (hE.below hba) (by simp) hl
  have hC : Calls Tryd.prog 62 #[.slice p L.length c, .func (.func 63) #[] #[.pointer (some ⟨w.heap.size, 0, none⟩)]] (w.alloc (.cells #[.int .i64 x] 3)) fun e w' => e = .returned (.bool (hasL L x)) ∧ Below (w.alloc (.cells #[.int .i64 x] 3)).heap.size (w.alloc (.cells #[.int .i64 x] 3)) w' := by
    obtain ⟨HI⟩ : Nonempty (Hid (Calls _ _ _ _ _)) := ⟨hI⟩
    obtain ⟨W, hW⟩ : ∃ W, Hid (w.alloc (.cells #[.int .i64 x] 3) = W) := ⟨_, show _ = _ from rfl⟩
    rw [show w.alloc (.cells #[.int .i64 x] 3) = W from hW.out] at HI ⊢
    clear hI hL hE hba
    go_enter Tryd.func62, Tryd.ntmps62
    go_wp2_with fail
    refine HI.out.mono ?_
    rintro e w1 ⟨⟨r, rfl, hr⟩, hb⟩
    obtain ⟨HR⟩ : Nonempty (Hid (decide (0 ≤ r) = hasL L x)) := ⟨hr⟩
    clear hr HI
    go_wp2
    go_ret
    exact ⟨ret_bool HR.out, hb⟩
  obtain ⟨HC⟩ : Nonempty (Hid (Calls _ _ _ _ _)) := ⟨hC⟩
  clear hC hI hL hE
  go_enter Tryd.func38, Tryd.ntmps38
  go_wp2_with fail
  refine HC.out.mono ?_
  rintro e w1 ⟨rfl, hb⟩
  have hb2 := hba.trans (hb.mono hba.size)
  go_wp2
  go_ret
  exact ⟨rfl, hb2⟩

theorem cnt_le (P : Int → Bool) (N : Nat) : cnt P N ≤ N := by
  induction N with
  | zero => exact Nat.le_refl _
  | succ k ih => simp only [cnt]; have := Bool.toNat_le (P (k : Int)); omega
theorem dis_take {S : List (Int × Int)} (h : Dis S) (k : Nat) : Dis (S.take k) := by
  induction S generalizing k with
  | nil => simpa using h
  | cons s r ih =>
    cases k with
    | zero => trivial
    | succ k => exact ⟨h.1, fun t ht => h.2.1 t (List.mem_of_mem_take ht), ih h.2.2 k⟩
theorem sum_bound {S : List (Int × Int)} (h : Sep S) (hb : ∀ s ∈ S, 0 ≤ s.1 ∧ s.2 ≤ 4294967296) (k : Nat) : 0 ≤ sumS (S.take k) ∧ sumS (S.take k) ≤ 4294967296 := by
  obtain ⟨N, hN⟩ : ∃ N : Nat, N = 4294967296 := ⟨_, rfl⟩
  have := cnt_dis N (S.take k) (dis_take h.dis k) (fun s hs => by have := hb s (List.mem_of_mem_take hs); omega)
  have h2 := cnt_le (inSB (S.take k)) N
  omega
theorem sum_step (S : List (Int × Int)) (k : Nat) (hk : k < S.length) : sumS (S.take k) + (S[k].2 - S[k].1) = sumS (S.take (k + 1)) := by
  induction S generalizing k with
  | nil => simp at hk
  | cons s r ih =>
    cases k with
    | zero => simp [sumS]
    | succ k =>
      have := ih k (by simpa using hk)
      simp only [List.take_succ_cons, sumS, List.getElem_cons_succ]
      omega
set_option linter.unusedVariables false in
set_option maxRecDepth 100000 in
set_option maxHeartbeats 4000000 in
theorem count_any (a : List (Int × Int)) (i : Nat) (hR : RightTo a i) (p : Option Addr) (cap : Nat) (et eb es : Addr) (w : World) (hE : SetEnv w et eb es) (hs : Pairs w p a) (hl : a.length ≤ 137438953472) :
    Calls Tryd.prog 43 #[.slice p a.length cap] w fun e w' => ((i = a.length ∧ ∃ s : Int, e = .returned (.tuple #[.int .i64 s, .nilIface]) ∧ ∀ N : Nat, N = 4294967296 → s = (cnt (inPB a) N : Int)) ∨
      ∃ v, e = .returned (.tuple #[.int .i64 0, v]) ∧ Faults w' v a i eb es) ∧ Below w.heap.size w w' := by
  obtain ⟨HSP⟩ : Nonempty (Hid (Calls _ _ _ _ _)) := ⟨spansOf_any a i hR p cap et eb es w hE hs (by omega)⟩
  have HR : Hid (RightTo a i) := hR
  clear hE hs hR
  go_enter Tryd.func43, Tryd.ntmps43
  go_wp2_with fail
  refine HSP.out.mono ?_
  rintro e w1 ⟨⟨hi, S, v, rfl, hS, hin, hSl, hown⟩ | ⟨h, b, rfl, hrow⟩, hb1⟩
  · have HI : Hid (i = a.length) := hi
    have hR : Rights a := by have := HR.out; rw [hi] at this; exact this.rights
    have hbd := sep_bound hS (fun z hz => right_in hR ((hin z).1 hz))
    obtain ⟨q, c, rfl, -, -, hp⟩ := own_pairs hown
    obtain ⟨HS⟩ : Nonempty (Hid (Sep S ∧ (∀ x, inS S x ↔ inP a x) ∧ (∀ s ∈ S, 0 ≤ s.1 ∧ s.2 ≤ 4294967296) ∧ Pairs w1 q S)) := ⟨⟨hS, hin, hbd, hp⟩⟩
    clear hi hS hin hbd hown hp hR HSP
    go_wp2
    go_loopw [6, 19] (fun t z wr => ∃ k : Nat, z = .int .i64 k ∧ t = .int .i64 (sumS (S.take k)) ∧ k ≤ S.length ∧ Below w1.heap.size w1 wr) (fun _ z _ => S.length - (intOf z).toNat)
    case atStart => exact ⟨0, rfl, rfl, Nat.zero_le _, Below.refl _ _⟩
    case round =>
      obtain ⟨k, rfl, rfl, hk, hb⟩ := hrel
      by_cases hlt : k < S.length
      · obtain ⟨b0, o0, rfl, c0, c1⟩ := HS.out.2.2.2 k hlt
        have c0' := cell_kept hb c0
        have c1' := cell_kept hb c1
        have hbw := cell_lt' c0'
        have hsk := HS.out.2.2.1 S[k] (List.getElem_mem hlt)
        have hsl := HS.out.1.mem S[k] (List.getElem_mem hlt)
        have hsb := sum_bound HS.out.1 HS.out.2.2.1 k
        have hsb2 := sum_bound HS.out.1 HS.out.2.2.1 (k + 1)
        have hst := sum_step S k hlt
        obtain ⟨x0, hx0⟩ : ∃ x, Hid (S[k].1 = x) := ⟨_, show _ = _ from rfl⟩
        obtain ⟨x1, hx1⟩ : ∃ x, Hid (S[k].2 = x) := ⟨_, show _ = _ from rfl⟩
        obtain ⟨t, ht⟩ : ∃ x, Hid (sumS (S.take k) = x) := ⟨_, show _ = _ from rfl⟩
        rw [show S[k].1 = x0 from hx0.out] at c0' hsk hsl hst
        rw [show S[k].2 = x1 from hx1.out] at c1' hsk hsl hst
        rw [show sumS (S.take k) = t from ht.out] at hsb hst ⊢
        obtain ⟨HST⟩ : Nonempty (Hid (t + (x1 - x0) = sumS (S.take (k + 1)))) := ⟨hst⟩
        have hw1 : IntKind.i64.wrap (x1 - x0) = x1 - x0 := wrapI _ (by omega) (by omega)
        have hw2 : IntKind.i64.wrap (t + (x1 - x0)) = t + (x1 - x0) := wrapI _ (by omega) (by omega)
        have hb2 := hb.alloc hb.size (.cells #[.int .i64 x0, .int .i64 x1] 93)
        clear c0 c1 hst
        go_wp2
        go_roundw
        case rel => exact ⟨k + 1, by go_num, by rw [HST.out], by omega, hb2⟩
        case measure => simp [intOf]; omega
      · have hkS : S.take k = S := List.take_of_length_le (by omega)
        obtain ⟨HC⟩ : Nonempty (Hid (∀ N : Nat, N = 4294967296 → sumS (S.take k) = (cnt (inPB a) N : Int))) := ⟨fun N hN => by
          rw [hkS, ← cnt_dis N S HS.out.1.dis (fun s hs => by have := HS.out.2.2.1 s hs; omega)]
          rw [cnt_congr (fun x => bool_of_iff (inSB_iff S x) (inPB_iff a x) (HS.out.2.1 x))]⟩
        obtain ⟨t, ht⟩ : ∃ x, Hid (sumS (S.take k) = x) := ⟨_, show _ = _ from rfl⟩
        rw [show sumS (S.take k) = t from ht.out] at HC ⊢
        have hb2 := hb1.trans (hb.mono hb1.size)
        clear hkS
        go_wp2
        exact bodyPost_ret (v := .tuple #[.int .i64 t, .nilIface]) (by simp [results, Tryd.results43, go_sem]) rfl ⟨.inl ⟨HI.out, t, rfl, HC.out⟩, hb2⟩
  · obtain ⟨HF⟩ : Nonempty (Hid (Faults w1 (.iface 29 (.pointer (some ⟨b, 0, none⟩))) a i eb es)) := ⟨h, b, rfl, hrow⟩
    clear hrow HSP
    go_wp2
    exact bodyPost_ret (v := .tuple #[.int .i64 0, .iface 29 (.pointer (some ⟨b, 0, none⟩))]) (by simp [results, Tryd.results43, go_sem]) rfl ⟨.inr ⟨_, rfl, HF.out⟩, hb1⟩
end Go.Proofs.YthehpnhjfnenoaaDoor
