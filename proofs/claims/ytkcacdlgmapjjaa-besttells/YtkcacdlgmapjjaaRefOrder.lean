/-
  The document's orderInts and OrderRoutes: what they return.
-/
import Derived.Test.YtkcacdlgmapjjaaBestCmp
import Derived.Test.YtkcacdlgmapjjaaBestMin
import Derived.Deep.RegionHeld3
import Derived.Deep.Cut
namespace Go.Proofs.Ytkcacdlgmapjjaa
open Go.RowKit

/-- the document's order of two routes, step by step. -/
def refN1 (a b : Ro) : Int := ordI [0, (a.att.path.length : Int), a.att.org, a.att.med, a.frm] [0, (b.att.path.length : Int), b.att.org, b.att.med, b.frm]
def refN2 (a b : Ro) : Int := if refN1 a b = 0 then ordI a.att.path b.att.path else refN1 a b
def refN3 (a b : Ro) : Int := if refN2 a b = 0 then ordI [a.dst.1, a.dst.2] [b.dst.1, b.dst.2] else refN2 a b
def refN4 (a b : Ro) : Int := if refN3 a b = 0 then ordI a.att.tags b.att.tags else refN3 a b
theorem refN_pref (a b : Ro) (h : a.att.pref ≠ b.att.pref) : ordR a b = if b.att.pref < a.att.pref then -1 else 1 := by
  unfold ordR keyR
  rw [ordI_cons, compare_neg]
  have e : Lib.compareInt b.att.pref a.att.pref = if b.att.pref < a.att.pref then -1 else 1 := by
    unfold Lib.compareInt
    by_cases h1 : b.att.pref < a.att.pref
    · rw [if_pos h1, if_pos h1]
    · have h2 : a.att.pref < b.att.pref := by omega
      rw [if_neg h1, if_neg h1, if_pos h2]
  rw [e]
  by_cases h1 : b.att.pref < a.att.pref <;> simp [h1]
theorem refN_rest (a b : Ro) (h : a.att.pref = b.att.pref) : ordR a b = refN4 a b := by
  unfold ordR
  rw [keyR_ord]
  unfold firstI
  rw [if_pos ((compare_zero _ _).2 h.symm)]
  have e1 : refN1 a b = firstI [Lib.compareInt a.att.path.length b.att.path.length, Lib.compareInt a.att.org b.att.org, Lib.compareInt a.att.med b.att.med, Lib.compareInt a.frm b.frm] := by
    unfold refN1
    rw [ordI_cons, if_pos ((compare_zero _ _).2 rfl), ordI_cons, ordI_cons, ordI_cons, ordI_one]
    unfold firstI firstI firstI firstI firstI
    have hz : (if Lib.compareInt a.frm b.frm = 0 then (0 : Int) else Lib.compareInt a.frm b.frm) = Lib.compareInt a.frm b.frm := by split <;> simp_all
    rw [hz]
  have e3 : ordI [a.dst.1, a.dst.2] [b.dst.1, b.dst.2] = if Lib.compareInt a.dst.1 b.dst.1 = 0 then Lib.compareInt a.dst.2 b.dst.2 else Lib.compareInt a.dst.1 b.dst.1 := by rw [ordI_cons, ordI_one]
  unfold refN4 refN3 refN2
  rw [e1, e3]
  generalize Lib.compareInt (a.att.path.length : Int) b.att.path.length = r2
  generalize Lib.compareInt a.att.org b.att.org = r3
  generalize Lib.compareInt a.att.med b.att.med = r4
  generalize Lib.compareInt a.frm b.frm = r5
  generalize ordI a.att.path b.att.path = r6
  generalize Lib.compareInt a.dst.1 b.dst.1 = r7
  generalize Lib.compareInt a.dst.2 b.dst.2 = r8
  generalize ordI a.att.tags b.att.tags = r9
  simp only [firstI]
  by_cases h2 : r2 = 0
  · by_cases h3 : r3 = 0
    · by_cases h4 : r4 = 0
      · by_cases h5 : r5 = 0
        · by_cases h6 : r6 = 0
          · by_cases h7 : r7 = 0
            · by_cases h8 : r8 = 0 <;> by_cases h9 : r9 = 0 <;> simp [h2, h3, h4, h5, h6, h7, h8, h9]
            · simp [h2, h3, h4, h5, h6, h7]
          · simp [h2, h3, h4, h5, h6]
        · simp [h2, h3, h4, h5]
      · simp [h2, h3, h4]
    · simp [h2, h3]
  · simp [h2]

set_option linter.unusedVariables false in
set_option linter.unusedSimpArgs false in
set_option maxRecDepth 100000 in
set_option maxHeartbeats 4000000 in
theorem rOrderInts_any (A B : List Int) (p q : Option Addr) (cp cq : Nat) (w : World) (hA : Ints w p A) (hB : Ints w q B) (h1 : A.length ≤ 1000000) (h2 : B.length ≤ 1000000) :
    Calls Try.prog 21 #[.slice p A.length cp, .slice q B.length cq] w fun r w' => r = .returned (.int .i64 (ordI A B)) ∧ Below w.heap.size w w' := by
  obtain ⟨res, hres⟩ : ∃ x, Hid (ordI A B = x) := ⟨_, show _ = _ from rfl⟩
  rw [show ordI A B = res from hres.out]
  obtain ⟨HA⟩ : Nonempty (Hid (∀ w', Below w.heap.size w w' → Ints w' p A ∧ Ints w' q B)) := ⟨fun w' hb => ⟨hA.below hb, hB.below hb⟩⟩
  obtain ⟨HS⟩ : Nonempty (Hid (Below w.heap.size w w)) := ⟨Below.refl _ _⟩
  clear hA hB
  go_enter Try.func21, Try.ntmps21
  go_wp2_with fail
  go_loopw [5] (fun i wr => ∃ k : Nat, i = .int .i64 k ∧ k ≤ A.length ∧ k ≤ B.length ∧ Hid (A.take k = B.take k) ∧ Hid (Below w.heap.size w wr)) (fun i _ => A.length - (intOf i).toNat)
  case atStart => exact ⟨0, rfl, Nat.zero_le _, Nat.zero_le _, by show _ = _; simp, HS⟩
  case round =>
    obtain ⟨k, rfl, hk, hkb, HK, HW⟩ := hrel
    by_cases hlt : k < A.length
    · have hltz : (k : Int) < A.length := by omega
      by_cases hltb : k < B.length
      · have hltbz : (k : Int) < B.length := by omega
        obtain ⟨b, o, rfl, c1⟩ := (HA.out wr HW.out).1 k hlt
        obtain ⟨b', o', rfl, c2⟩ := (HA.out wr HW.out).2 k hltb
        obtain ⟨x, hx⟩ : ∃ x, Hid (A[k] = x) := ⟨_, show _ = _ from rfl⟩
        obtain ⟨y, hy⟩ : ∃ x, Hid (B[k] = x) := ⟨_, show _ = _ from rfl⟩
        rw [show A[k] = x from hx.out] at c1
        rw [show B[k] = y from hy.out] at c2
        go_upto_region 4 with fail
        by_cases hxy : x < y
        · obtain ⟨HN⟩ : Nonempty (Hid (res = -1)) := ⟨by
            show _ = _
            rw [← hres.out]
            have f := ltI_at HK.out hlt hltb (by rw [hx.out, hy.out]; exact hxy)
            unfold ordI
            rw [if_pos f.1]⟩
          go_quiet (fail)
          go_wp2
          go_ret
          exact ⟨by rw [HN.out]; rfl, below_drewN HW.out _⟩
        · go_quiet (fail)
          obtain ⟨wq, hwq⟩ : ∃ wq, Hid (wr.drewN nq = wq) := ⟨_, show _ = _ from rfl⟩
          obtain ⟨HQ⟩ : Nonempty (Hid (Below w.heap.size w wq)) := ⟨by rw [← hwq.out]; exact below_drewN HW.out _⟩
          have c1' : wq.cell? ⟨b, o + k, none⟩ = some (.int .i64 x) := by rw [← hwq.out]; exact c1
          have c2' : wq.cell? ⟨b', o' + k, none⟩ = some (.int .i64 y) := by rw [← hwq.out]; exact c2
          rw [show wr.drewN nq = wq from hwq.out]
          clear hwq c1 c2 nq
          go_upto_region 6 with fail
          by_cases hyx : y < x
          · obtain ⟨HN⟩ : Nonempty (Hid (res = 1)) := ⟨by
              show _ = _
              rw [← hres.out]
              have f := ltI_at HK.out.symm hltb hlt (by rw [hx.out, hy.out]; exact hyx)
              unfold ordI
              rw [if_neg (by rw [f.2]; simp), if_pos f.1]⟩
            go_quiet (fail)
            go_wp2
            go_ret
            exact ⟨by rw [HN.out]; rfl, below_drewN HQ.out _⟩
          · obtain ⟨HN⟩ : Nonempty (Hid (A.take (k + 1) = B.take (k + 1))) := ⟨by
              show _ = _
              have hxy' : A[k] = B[k] := by rw [hx.out, hy.out]; omega
              rw [List.take_succ_eq_append_getElem hlt, List.take_succ_eq_append_getElem hltb, HK.out, hxy']⟩
            go_quiet (fail)
            go_wp2
            go_roundw
            case rel => first | exact ⟨k + 1, by go_num, by omega, by omega, HN, below_drewN HQ.out _⟩ | ((repeat apply Exists.intro); exact ⟨⟨k + 1, by go_num, by omega, by omega, HN, below_drewN HQ.out _⟩, rfl⟩)
            case measure => simp [intOf]; omega
      · have hltbz : ¬ (k : Int) < B.length := by omega
        obtain rfl : k = B.length := by omega
        have e1 : ¬ (A.length : Int) < B.length := by omega
        have e2 : (B.length : Int) < A.length := by omega
        obtain ⟨HN⟩ : Nonempty (Hid (res = 1)) := ⟨by
          show _ = _
          rw [← hres.out]
          unfold ordI
          rw [ltI_short HK.out (.inr rfl), ltI_short HK.out.symm (.inl rfl), decide_eq_false (by omega), decide_eq_true (show B.length < A.length by omega)]
          rfl⟩
        go_wp2_with fail
        go_ret
        exact ⟨by rw [HN.out]; rfl, HW.out⟩
    · have hltz : ¬ (k : Int) < A.length := by omega
      obtain rfl : k = A.length := by omega
      by_cases hl : A.length < B.length
      · have hlz : (A.length : Int) < B.length := by omega
        obtain ⟨HN⟩ : Nonempty (Hid (res = -1)) := ⟨by
          show _ = _
          rw [← hres.out]
          unfold ordI
          rw [ltI_short HK.out (.inl rfl), decide_eq_true hl]
          rfl⟩
        go_wp2_with fail
        go_ret
        exact ⟨by rw [HN.out]; rfl, HW.out⟩
      · have hlz : ¬ (A.length : Int) < B.length := by omega
        have hlz2 : ¬ (B.length : Int) < A.length := by omega
        obtain ⟨HN⟩ : Nonempty (Hid (res = 0)) := ⟨by
          show _ = _
          rw [← hres.out]
          unfold ordI
          rw [ltI_short HK.out (.inl rfl), ltI_short HK.out.symm (.inr rfl), decide_eq_false hl, decide_eq_false (by omega)]
          rfl⟩
        go_wp2_with fail
        go_ret
        exact ⟨by rw [HN.out]; rfl, HW.out⟩

theorem ints5 {w : World} {b : Nat} {x0 x1 x2 x3 x4 : Int} {t : TypeId} (h : w.heap[b]? = some (.cells #[.int .i64 x0, .int .i64 x1, .int .i64 x2, .int .i64 x3, .int .i64 x4] t (0, 0))) : Ints w (some ⟨b, 0, none⟩) [x0, x1, x2, x3, x4] := fun i hi => by
  have hi' : i < 5 := by simpa using hi
  refine ⟨b, 0, rfl, ?_⟩
  rcases i with _ | _ | _ | _ | _ | i <;> first | (simp [World.cell?, h]; done) | omega
theorem ints2 {w : World} {b : Nat} {x0 x1 : Int} {t : TypeId} (h : w.heap[b]? = some (.cells #[.int .i64 x0, .int .i64 x1] t (0, 0))) : Ints w (some ⟨b, 0, none⟩) [x0, x1] := fun i hi => by
  have hi' : i < 2 := by simpa using hi
  refine ⟨b, 0, rfl, ?_⟩
  rcases i with _ | _ | i <;> first | (simp [World.cell?, h]; done) | omega
set_option linter.unusedVariables false in
set_option linter.unusedSimpArgs false in
set_option maxRecDepth 100000 in
set_option maxHeartbeats 16000000 in
theorem rOrder_any (x y : RV) (w : World) (hx : RvIn w x) (hy : RvIn w y) (h1 : x.r.att.path.length ≤ 1000000) (h2 : x.r.att.tags.length ≤ 1000000) (h3 : y.r.att.path.length ≤ 1000000) (h4 : y.r.att.tags.length ≤ 1000000) :
    Calls Try.prog 14 #[roV x, roV y] w fun r w' => r = .returned (.int .i64 (ordR x.r y.r)) ∧ Below w.heap.size w w' := by
  obtain ⟨⟨⟨ta, tn⟩, ⟨P, f, m, o, T⟩, u⟩, p, cp, q, cq⟩ := x
  obtain ⟨⟨⟨ta', tn'⟩, ⟨P', f', m', o', T'⟩, u'⟩, p', cp', q', cq'⟩ := y
  obtain ⟨i1, i2⟩ := hx
  obtain ⟨i3, i4⟩ := hy
  simp only at i1 i2 i3 i4 h1 h2 h3 h4
  obtain ⟨res, hres⟩ : ∃ z, Hid (ordR ⟨(ta, tn), ⟨P, f, m, o, T⟩, u⟩ ⟨(ta', tn'), ⟨P', f', m', o', T'⟩, u'⟩ = z) := ⟨_, show _ = _ from rfl⟩
  simp only
  rw [show ordR ⟨(ta, tn), ⟨P, f, m, o, T⟩, u⟩ ⟨(ta', tn'), ⟨P', f', m', o', T'⟩, u'⟩ = res from hres.out]
  obtain ⟨N, hN⟩ : ∃ N, Hid (w.heap.size = N) := ⟨_, show _ = _ from rfl⟩
  obtain ⟨W, hW⟩ : ∃ W, Hid ((w.alloc (.cells #[.int .i64 ta, .int .i64 tn, .slice p P.length cp, .int .i64 f, .int .i64 m, .int .i64 o, .slice q T.length cq, .int .i64 u] 31)).alloc (.cells #[.int .i64 ta', .int .i64 tn', .slice p' P'.length cp', .int .i64 f', .int .i64 m', .int .i64 o', .slice q' T'.length cq', .int .i64 u'] 31) = W) := ⟨_, show _ = _ from rfl⟩
  obtain ⟨HW⟩ : Nonempty (Hid (Below w.heap.size w W ∧ W.heap[N]? = some (.cells #[.int .i64 ta, .int .i64 tn, .slice p P.length cp, .int .i64 f, .int .i64 m, .int .i64 o, .slice q T.length cq, .int .i64 u] 31 (0, 0)) ∧ W.heap[N + 1]? = some (.cells #[.int .i64 ta', .int .i64 tn', .slice p' P'.length cp', .int .i64 f', .int .i64 m', .int .i64 o', .slice q' T'.length cq', .int .i64 u'] 31 (0, 0)) ∧ W.heap.size = N + 2)) := ⟨by
    rw [← hW.out, ← hN.out]
    refine ⟨below_two _ _ _, ?_, ?_, by simp⟩
    · rw [Below.heap_alloc _ _ _ (by simp)]; exact Go.heap_alloc_new w _
    · have := Go.heap_alloc_new (w.alloc (.cells #[.int .i64 ta, .int .i64 tn, .slice p P.length cp, .int .i64 f, .int .i64 m, .int .i64 o, .slice q T.length cq, .int .i64 u] 31)) (.cells #[.int .i64 ta', .int .i64 tn', .slice p' P'.length cp', .int .i64 f', .int .i64 m', .int .i64 o', .slice q' T'.length cq', .int .i64 u'] 31)
      simpa using this⟩
  obtain ⟨HP⟩ : Nonempty (Hid (∀ w', Below w.heap.size w w' → Calls Try.prog 21 #[.slice p P.length cp, .slice p' P'.length cp'] w' fun r w'' => r = .returned (.int .i64 (ordI P P')) ∧ Below w'.heap.size w' w'')) := ⟨fun w' hb => rOrderInts_any P P' p p' cp cp' w' (i1.below hb) (i3.below hb) h1 h3⟩
  obtain ⟨HT⟩ : Nonempty (Hid (∀ w', Below w.heap.size w w' → Calls Try.prog 21 #[.slice q T.length cq, .slice q' T'.length cq'] w' fun r w'' => r = .returned (.int .i64 (ordI T T')) ∧ Below w'.heap.size w' w'')) := ⟨fun w' hb => rOrderInts_any T T' q q' cq cq' w' (i2.below hb) (i4.below hb) h2 h4⟩
  clear i1 i2 i3 i4 h1 h2 h3 h4
  unfold roV enc8
  simp only
  go_enter Try.func14, Try.ntmps14
  go_upto_region 1 with fail
  rw [show (w.alloc (.cells #[.int .i64 ta, .int .i64 tn, .slice p P.length cp, .int .i64 f, .int .i64 m, .int .i64 o, .slice q T.length cq, .int .i64 u] 31)).alloc (.cells #[.int .i64 ta', .int .i64 tn', .slice p' P'.length cp', .int .i64 f', .int .i64 m', .int .i64 o', .slice q' T'.length cq', .int .i64 u'] 31) = W from hW.out, show w.heap.size = N from hN.out]
  clear hW
  obtain ⟨x0, x1, x2, x3, x4, x5, x6, x7, -⟩ := heap_cells8 HW.out.2.1
  obtain ⟨W1, hW1⟩ : ∃ W', Hid (W.alloc (.cells #[.int .i64 (wrap64 (-f)), .int .i64 P.length, .int .i64 o, .int .i64 m, .int .i64 u] 3) = W') := ⟨_, show _ = _ from rfl⟩
  obtain ⟨HW1⟩ : Nonempty (Hid ((Below w.heap.size w W1 ∧ W1.heap[N]? = some (.cells #[.int .i64 ta, .int .i64 tn, .slice p P.length cp, .int .i64 f, .int .i64 m, .int .i64 o, .slice q T.length cq, .int .i64 u] 31 (0, 0)) ∧ W1.heap[N + 1]? = some (.cells #[.int .i64 ta', .int .i64 tn', .slice p' P'.length cp', .int .i64 f', .int .i64 m', .int .i64 o', .slice q' T'.length cq', .int .i64 u'] 31 (0, 0)) ∧ W1.heap[N + 2]? = some (.cells #[.int .i64 (wrap64 (-f)), .int .i64 P.length, .int .i64 o, .int .i64 m, .int .i64 u] 3 (0, 0))) ∧ W1.heap.size = N + 3)) := ⟨by
    rw [← hW1.out]
    refine ⟨⟨HW.out.1.trans ((below_alloc _ _).mono HW.out.1.size), ?_, ?_, ?_⟩, by rw [show (W.alloc _).heap.size = W.heap.size + 1 by simp, HW.out.2.2.2]⟩
    · rw [Below.heap_alloc _ _ _ (by rw [HW.out.2.2.2]; omega)]; exact HW.out.2.1
    · rw [Below.heap_alloc _ _ _ (by rw [HW.out.2.2.2]; omega)]; exact HW.out.2.2.1
    · have := Go.heap_alloc_new W (.cells #[.int .i64 (wrap64 (-f)), .int .i64 P.length, .int .i64 o, .int .i64 m, .int .i64 u] 3)
      rwa [HW.out.2.2.2] at this⟩
  go_upto_region 2 with fail
  rw [show W.alloc (.cells #[.int .i64 (wrap64 (-f)), .int .i64 P.length, .int .i64 o, .int .i64 m, .int .i64 u] 3) = W1 from hW1.out, show W.heap.size = N + 2 from HW.out.2.2.2]
  clear x0 x1 x2 x3 x4 x5 x6 x7
  obtain ⟨y0, y1, y2, y3, y4, y5, y6, y7, -⟩ := heap_cells8 HW1.out.1.2.2.1
  obtain ⟨W2, hW2⟩ : ∃ W', Hid (W1.alloc (.cells #[.int .i64 (wrap64 (-f')), .int .i64 P'.length, .int .i64 o', .int .i64 m', .int .i64 u'] 3) = W') := ⟨_, show _ = _ from rfl⟩
  obtain ⟨HW2⟩ : Nonempty (Hid ((Below w.heap.size w W2 ∧ W2.heap[N]? = some (.cells #[.int .i64 ta, .int .i64 tn, .slice p P.length cp, .int .i64 f, .int .i64 m, .int .i64 o, .slice q T.length cq, .int .i64 u] 31 (0, 0)) ∧ W2.heap[N + 1]? = some (.cells #[.int .i64 ta', .int .i64 tn', .slice p' P'.length cp', .int .i64 f', .int .i64 m', .int .i64 o', .slice q' T'.length cq', .int .i64 u'] 31 (0, 0)) ∧ W2.heap[N + 2]? = some (.cells #[.int .i64 (wrap64 (-f)), .int .i64 P.length, .int .i64 o, .int .i64 m, .int .i64 u] 3 (0, 0)) ∧ W2.heap[N + 3]? = some (.cells #[.int .i64 (wrap64 (-f')), .int .i64 P'.length, .int .i64 o', .int .i64 m', .int .i64 u'] 3 (0, 0))) ∧ W2.heap.size = N + 4)) := ⟨by
    rw [← hW2.out]
    refine ⟨⟨HW1.out.1.1.trans ((below_alloc _ _).mono HW1.out.1.1.size), ?_, ?_, ?_, ?_⟩, by rw [show (W1.alloc _).heap.size = W1.heap.size + 1 by simp, HW1.out.2]⟩
    · rw [Below.heap_alloc _ _ _ (by rw [HW1.out.2]; omega)]; exact HW1.out.1.2.1
    · rw [Below.heap_alloc _ _ _ (by rw [HW1.out.2]; omega)]; exact HW1.out.1.2.2.1
    · rw [Below.heap_alloc _ _ _ (by rw [HW1.out.2]; omega)]; exact HW1.out.1.2.2.2
    · have := Go.heap_alloc_new W1 (.cells #[.int .i64 (wrap64 (-f')), .int .i64 P'.length, .int .i64 o', .int .i64 m', .int .i64 u'] 3)
      rwa [HW1.out.2] at this⟩
  go_upto_region 3 with fail
  rw [show W1.alloc (.cells #[.int .i64 (wrap64 (-f')), .int .i64 P'.length, .int .i64 o', .int .i64 m', .int .i64 u'] 3) = W2 from hW2.out, show W1.heap.size = N + 3 from HW1.out.2]
  clear y0 y1 y2 y3 y4 y5 y6 y7 hW1 hW2 HW1 HW
  obtain ⟨x0, x1, x2, x3, x4, x5, x6, x7, -⟩ := heap_cells8 HW2.out.1.2.1
  obtain ⟨y0, y1, y2, y3, y4, y5, y6, y7, -⟩ := heap_cells8 HW2.out.1.2.2.1
  by_cases hf : f = f'
  rotate_left
  · have hf1 : (f == f') = false := beq_eq_false_iff_ne.2 hf
    have hf2 : (f != f') = true := by rw [bne, hf1]; rfl
    have hr := refN_pref ⟨(ta, tn), ⟨P, f, m, o, T⟩, u⟩ ⟨(ta', tn'), ⟨P', f', m', o', T'⟩, u'⟩ hf
    rw [show ordR ⟨(ta, tn), ⟨P, f, m, o, T⟩, u⟩ ⟨(ta', tn'), ⟨P', f', m', o', T'⟩, u'⟩ = res from hres.out] at hr
    simp only at hr
    by_cases hl : f' < f
    · rw [if_pos hl] at hr
      obtain ⟨HR⟩ : Nonempty (Hid (res = -1)) := ⟨hr⟩
      clear hr hf
      go_wp2_with fail
      go_ret
      exact ⟨by rw [HR.out]; rfl, HW2.out.1.1⟩
    · rw [if_neg hl] at hr
      obtain ⟨HR⟩ : Nonempty (Hid (res = 1)) := ⟨hr⟩
      clear hr hf
      go_wp2_with fail
      go_ret
      exact ⟨by rw [HR.out]; rfl, HW2.out.1.1⟩
  · have hr := refN_rest ⟨(ta, tn), ⟨P, f, m, o, T⟩, u⟩ ⟨(ta', tn'), ⟨P', f', m', o', T'⟩, u'⟩ hf
    rw [show ordR ⟨(ta, tn), ⟨P, f, m, o, T⟩, u⟩ ⟨(ta', tn'), ⟨P', f', m', o', T'⟩, u'⟩ = res from hres.out] at hr
    obtain ⟨HR⟩ : Nonempty (Hid (res = refN4 ⟨(ta, tn), ⟨P, f, m, o, T⟩, u⟩ ⟨(ta', tn'), ⟨P', f', m', o', T'⟩, u'⟩)) := ⟨hr⟩
    obtain ⟨n1, hn1⟩ : ∃ z, Hid (refN1 ⟨(ta, tn), ⟨P, f, m, o, T⟩, u⟩ ⟨(ta', tn'), ⟨P', f', m', o', T'⟩, u'⟩ = z) := ⟨_, show _ = _ from rfl⟩
    have hf1 : (f == f') = true := by rw [hf]; exact beq_self_eq_true _
    have hf2 : (f != f') = false := by rw [bne, hf1]; rfl
    clear hr hres
    obtain ⟨HF⟩ : Nonempty (Hid (f = f')) := ⟨hf⟩
    clear hf
    obtain ⟨W3, hW3⟩ : ∃ W', Hid ((W2.setCell ⟨N + 2, 0, none⟩ (.int .i64 0)).setCell ⟨N + 3, 0, none⟩ (.int .i64 0) = W') := ⟨_, show _ = _ from rfl⟩
    obtain ⟨HW3⟩ : Nonempty (Hid (Below w.heap.size w W3 ∧ W3.heap[N]? = some (.cells #[.int .i64 ta, .int .i64 tn, .slice p P.length cp, .int .i64 f, .int .i64 m, .int .i64 o, .slice q T.length cq, .int .i64 u] 31 (0, 0)) ∧ W3.heap[N + 1]? = some (.cells #[.int .i64 ta', .int .i64 tn', .slice p' P'.length cp', .int .i64 f', .int .i64 m', .int .i64 o', .slice q' T'.length cq', .int .i64 u'] 31 (0, 0)) ∧ W3.heap[N + 2]? = some (.cells #[.int .i64 0, .int .i64 P.length, .int .i64 o, .int .i64 m, .int .i64 u] 3 (0, 0)) ∧ W3.heap[N + 3]? = some (.cells #[.int .i64 0, .int .i64 P'.length, .int .i64 o', .int .i64 m', .int .i64 u'] 3 (0, 0)))) := ⟨by
      rw [← hW3.out]
      have hb := HW2.out.1
      refine ⟨(hb.1.setCell (p := ⟨N + 2, 0, none⟩) (by rw [show w.heap.size = N from hN.out]; simp) _).setCell (p := ⟨N + 3, 0, none⟩) (by rw [show w.heap.size = N from hN.out]; simp) _, ?_, ?_, ?_, ?_⟩
      · rw [Below.heap_setCell _ _ _ _ (by simp), Below.heap_setCell _ _ _ _ (by simp)]; exact hb.2.1
      · rw [Below.heap_setCell _ _ _ _ (by simp), Below.heap_setCell _ _ _ _ (by simp)]; exact hb.2.2.1
      · rw [Below.heap_setCell _ _ _ _ (by simp)]
        have := heap_setCell_same W2 (N + 2) 0 _ _ (.int .i64 0) hb.2.2.2.1
        simpa using this
      · have := heap_setCell_same (W2.setCell ⟨N + 2, 0, none⟩ (.int .i64 0)) (N + 3) 0 _ _ (.int .i64 0) (by rw [Below.heap_setCell _ _ _ _ (by simp)]; exact hb.2.2.2.2)
        simpa using this⟩
    obtain ⟨HC1⟩ : Nonempty (Hid (Calls Try.prog 21 #[.slice (some ⟨N + 2, 0, none⟩) 5 5, .slice (some ⟨N + 3, 0, none⟩) 5 5] W3 fun r w'' => r = .returned (.int .i64 n1) ∧ Below W3.heap.size W3 w'')) := ⟨by
      have := rOrderInts_any [0, (P.length : Int), o, m, u] [0, (P'.length : Int), o', m', u'] (some ⟨N + 2, 0, none⟩) (some ⟨N + 3, 0, none⟩) 5 5 W3 (ints5 HW3.out.2.2.2.1) (ints5 HW3.out.2.2.2.2) (by simp) (by simp)
      rw [← hn1.out]
      exact this⟩
    have a2 : W2.cell? ⟨N + 2, 0, none⟩ = some (.int .i64 (wrap64 (-f))) := by simp [World.cell?, HW2.out.1.2.2.2.1]
    have a3 : W2.cell? ⟨N + 3, 0, none⟩ = some (.int .i64 (wrap64 (-f'))) := by simp [World.cell?, HW2.out.1.2.2.2.2]
    have b2 : W2.frozen? ⟨N + 2, 0, none⟩ = false := by simp [World.frozen?, HW2.out.1.2.2.2.1]
    have b3 : W2.frozen? ⟨N + 3, 0, none⟩ = false := by simp [World.frozen?, HW2.out.1.2.2.2.2]
    go_upto_region 9 with fail
    rw [show (W2.setCell ⟨N + 2, 0, none⟩ (.int .i64 0)).setCell ⟨N + 3, 0, none⟩ (.int .i64 0) = W3 from hW3.out]
    clear x0 x1 x2 x3 x4 x5 x6 x7 y0 y1 y2 y3 y4 y5 y6 y7 a2 a3 b2 b3 hW3
    go_upto_if 64 with (go_at_call 21; refine HC1.out.mono ?_; rintro e w1 ⟨rfl, hb1⟩)
    obtain ⟨HA⟩ : Nonempty (Hid (Below w.heap.size w w1 ∧ w1.heap[N]? = some (.cells #[.int .i64 ta, .int .i64 tn, .slice p P.length cp, .int .i64 f, .int .i64 m, .int .i64 o, .slice q T.length cq, .int .i64 u] 31 (0, 0)) ∧ w1.heap[N + 1]? = some (.cells #[.int .i64 ta', .int .i64 tn', .slice p' P'.length cp', .int .i64 f', .int .i64 m', .int .i64 o', .slice q' T'.length cq', .int .i64 u'] 31 (0, 0)) ∧ N + 4 ≤ w1.heap.size)) := ⟨by
      have s3 : N + 3 < W3.heap.size := (Array.getElem?_eq_some_iff.1 HW3.out.2.2.2.2).1
      exact ⟨HW3.out.1.trans (hb1.mono HW3.out.1.size), by rw [hb1.block _ (by omega)]; exact HW3.out.2.1, by rw [hb1.block _ (by omega)]; exact HW3.out.2.2.1, by have := hb1.size; omega⟩⟩
    clear hb1 HC1
    obtain ⟨n2, Hn2⟩ : ∃ z, Hid (refN2 ⟨(ta, tn), ⟨P, f, m, o, T⟩, u⟩ ⟨(ta', tn'), ⟨P', f', m', o', T'⟩, u'⟩ = z) := ⟨_, show _ = _ from rfl⟩
    obtain ⟨n3, Hn3⟩ : ∃ z, Hid (refN3 ⟨(ta, tn), ⟨P, f, m, o, T⟩, u⟩ ⟨(ta', tn'), ⟨P', f', m', o', T'⟩, u'⟩ = z) := ⟨_, show _ = _ from rfl⟩
    obtain ⟨n4, Hn4⟩ : ∃ z, Hid (refN4 ⟨(ta, tn), ⟨P, f, m, o, T⟩, u⟩ ⟨(ta', tn'), ⟨P', f', m', o', T'⟩, u'⟩ = z) := ⟨_, show _ = _ from rfl⟩
    have Hn1 := hn1
    clear hn1
    go_cut [7] from 8 (fun s wc => s = .int .i64 n2 ∧ Hid (Below w.heap.size w wc ∧ wc.heap[N]? = some (.cells #[.int .i64 ta, .int .i64 tn, .slice p P.length cp, .int .i64 f, .int .i64 m, .int .i64 o, .slice q T.length cq, .int .i64 u] 31 (0, 0)) ∧ wc.heap[N + 1]? = some (.cells #[.int .i64 ta', .int .i64 tn', .slice p' P'.length cp', .int .i64 f', .int .i64 m', .int .i64 o', .slice q' T'.length cq', .int .i64 u'] 31 (0, 0)) ∧ N + 4 ≤ wc.heap.size))
    case first =>
      by_cases h0 : n1 = 0
      · obtain ⟨HE⟩ : Nonempty (Hid (n2 = ordI P P')) := ⟨by
          show _ = _
          rw [← Hn2.out]
          unfold refN2
          rw [show refN1 ⟨(ta, tn), ⟨P, f, m, o, T⟩, u⟩ ⟨(ta', tn'), ⟨P', f', m', o', T'⟩, u'⟩ = n1 from Hn1.out, if_pos h0]⟩
        subst h0
        obtain ⟨x0, x1, x2, x3, x4, x5, x6, x7, -⟩ := heap_cells8 HA.out.2.1
        obtain ⟨y0, y1, y2, y3, y4, y5, y6, y7, -⟩ := heap_cells8 HA.out.2.2.1
        have hc := HP.out _ HA.out.1
        go_wp2_with (go_at_call 21; refine hc.mono ?_; rintro e w2 ⟨rfl, hb2⟩)
        go_meet
        case rel =>
          have s3 := HA.out.2.2.2
          exact ⟨by rw [HE.out], HA.out.1.trans (hb2.mono HA.out.1.size), by rw [hb2.block _ (by omega)]; exact HA.out.2.1, by rw [hb2.block _ (by omega)]; exact HA.out.2.2.1, by have := hb2.size; omega⟩
      · have h1 : (n1 == 0) = false := beq_eq_false_iff_ne.2 h0
        obtain ⟨HE⟩ : Nonempty (Hid (n2 = n1)) := ⟨by
          show _ = _
          rw [← Hn2.out]
          unfold refN2
          rw [show refN1 ⟨(ta, tn), ⟨P, f, m, o, T⟩, u⟩ ⟨(ta', tn'), ⟨P', f', m', o', T'⟩, u'⟩ = n1 from Hn1.out, if_neg h0]⟩
        clear h0
        go_wp2_with fail
        go_meet
        case rel => exact ⟨by rw [HE.out], HA⟩
    clear HA
    obtain ⟨rfl, HA⟩ := hcut
    clear HP
    go_upto_if 73 with fail
    go_cut [7] from 8 (fun s wc => s = .int .i64 n3 ∧ Hid (Below w.heap.size w wc ∧ wc.heap[N]? = some (.cells #[.int .i64 ta, .int .i64 tn, .slice p P.length cp, .int .i64 f, .int .i64 m, .int .i64 o, .slice q T.length cq, .int .i64 u] 31 (0, 0)) ∧ wc.heap[N + 1]? = some (.cells #[.int .i64 ta', .int .i64 tn', .slice p' P'.length cp', .int .i64 f', .int .i64 m', .int .i64 o', .slice q' T'.length cq', .int .i64 u'] 31 (0, 0)) ∧ N + 4 ≤ wc.heap.size))
    case first =>
      by_cases h0 : n2 = 0
      · obtain ⟨HE⟩ : Nonempty (Hid (n3 = ordI [ta, tn] [ta', tn'])) := ⟨by
          show _ = _
          rw [← Hn3.out]
          unfold refN3
          rw [show refN2 ⟨(ta, tn), ⟨P, f, m, o, T⟩, u⟩ ⟨(ta', tn'), ⟨P', f', m', o', T'⟩, u'⟩ = n2 from Hn2.out, if_pos h0]⟩
        subst h0
        obtain ⟨x0, x1, x2, x3, x4, x5, x6, x7, -⟩ := heap_cells8 HA.out.2.1
        obtain ⟨y0, y1, y2, y3, y4, y5, y6, y7, -⟩ := heap_cells8 HA.out.2.2.1
        have z0 := cell_kept (below_alloc wc (.cells #[.int .i64 ta, .int .i64 tn] 3)) y0
        have z1 := cell_kept (below_alloc wc (.cells #[.int .i64 ta, .int .i64 tn] 3)) y1
        obtain ⟨HV⟩ : Nonempty (Hid ((∀ b, b < wc.heap.size → ((wc.alloc (.cells #[.int .i64 ta, .int .i64 tn] 3)).alloc (.cells #[.int .i64 ta', .int .i64 tn'] 3)).heap[b]? = wc.heap[b]?) ∧ Below wc.heap.size wc ((wc.alloc (.cells #[.int .i64 ta, .int .i64 tn] 3)).alloc (.cells #[.int .i64 ta', .int .i64 tn'] 3)) ∧ ((wc.alloc (.cells #[.int .i64 ta, .int .i64 tn] 3)).alloc (.cells #[.int .i64 ta', .int .i64 tn'] 3)).heap[wc.heap.size]? = some (.cells #[.int .i64 ta, .int .i64 tn] 3 (0, 0)) ∧ ((wc.alloc (.cells #[.int .i64 ta, .int .i64 tn] 3)).alloc (.cells #[.int .i64 ta', .int .i64 tn'] 3)).heap[wc.heap.size + 1]? = some (.cells #[.int .i64 ta', .int .i64 tn'] 3 (0, 0)))) := ⟨by
          refine ⟨fun b hb => ?_, below_two _ _ _, ?_, ?_⟩
          · rw [Below.heap_alloc _ _ _ (by simp; omega), Below.heap_alloc _ _ _ hb]
          · rw [Below.heap_alloc _ _ _ (by simp)]; exact Go.heap_alloc_new _ _
          · have := Go.heap_alloc_new (wc.alloc (.cells #[.int .i64 ta, .int .i64 tn] 3)) (.cells #[.int .i64 ta', .int .i64 tn'] 3)
            simpa using this⟩
        have hc := rOrderInts_any [ta, tn] [ta', tn'] (some ⟨wc.heap.size, 0, none⟩) (some ⟨wc.heap.size + 1, 0, none⟩) 2 2 ((wc.alloc (.cells #[.int .i64 ta, .int .i64 tn] 3)).alloc (.cells #[.int .i64 ta', .int .i64 tn'] 3)) (ints2 HV.out.2.2.1) (ints2 HV.out.2.2.2) (by simp) (by simp)
        go_wp2_with (go_at_call 21; refine hc.mono ?_; rintro e w2 ⟨rfl, hb2⟩)
        go_meet
        case rel =>
          have s3 := HA.out.2.2.2
          have s4 := HV.out.2.1.size
          exact ⟨by rw [HE.out], HA.out.1.trans ((HV.out.2.1.trans (hb2.mono s4)).mono HA.out.1.size), by rw [hb2.block _ (by omega), HV.out.1 _ (by omega)]; exact HA.out.2.1, by rw [hb2.block _ (by omega), HV.out.1 _ (by omega)]; exact HA.out.2.2.1, by have := hb2.size; omega⟩
      · have h1 : (n2 == 0) = false := beq_eq_false_iff_ne.2 h0
        obtain ⟨HE⟩ : Nonempty (Hid (n3 = n2)) := ⟨by
          show _ = _
          rw [← Hn3.out]
          unfold refN3
          rw [show refN2 ⟨(ta, tn), ⟨P, f, m, o, T⟩, u⟩ ⟨(ta', tn'), ⟨P', f', m', o', T'⟩, u'⟩ = n2 from Hn2.out, if_neg h0]⟩
        clear h0
        go_wp2_with fail
        go_meet
        case rel => exact ⟨by rw [HE.out], HA⟩
    clear HA
    obtain ⟨rfl, HA⟩ := hcut
    go_upto_if 90 with fail
    go_cut [7] from 8 (fun s wc => s = .int .i64 n4 ∧ Hid (Below w.heap.size w wc ∧ wc.heap[N]? = some (.cells #[.int .i64 ta, .int .i64 tn, .slice p P.length cp, .int .i64 f, .int .i64 m, .int .i64 o, .slice q T.length cq, .int .i64 u] 31 (0, 0)) ∧ wc.heap[N + 1]? = some (.cells #[.int .i64 ta', .int .i64 tn', .slice p' P'.length cp', .int .i64 f', .int .i64 m', .int .i64 o', .slice q' T'.length cq', .int .i64 u'] 31 (0, 0)) ∧ N + 4 ≤ wc.heap.size))
    case first =>
      by_cases h0 : n3 = 0
      · obtain ⟨HE⟩ : Nonempty (Hid (n4 = ordI T T')) := ⟨by
          show _ = _
          rw [← Hn4.out]
          unfold refN4
          rw [show refN3 ⟨(ta, tn), ⟨P, f, m, o, T⟩, u⟩ ⟨(ta', tn'), ⟨P', f', m', o', T'⟩, u'⟩ = n3 from Hn3.out, if_pos h0]⟩
        subst h0
        obtain ⟨x0, x1, x2, x3, x4, x5, x6, x7, -⟩ := heap_cells8 HA.out.2.1
        obtain ⟨y0, y1, y2, y3, y4, y5, y6, y7, -⟩ := heap_cells8 HA.out.2.2.1
        have hc := HT.out _ HA.out.1
        go_wp2_with (go_at_call 21; refine hc.mono ?_; rintro e w2 ⟨rfl, hb2⟩)
        go_meet
        case rel =>
          have s3 := HA.out.2.2.2
          exact ⟨by rw [HE.out], HA.out.1.trans (hb2.mono HA.out.1.size), by rw [hb2.block _ (by omega)]; exact HA.out.2.1, by rw [hb2.block _ (by omega)]; exact HA.out.2.2.1, by have := hb2.size; omega⟩
      · have h1 : (n3 == 0) = false := beq_eq_false_iff_ne.2 h0
        obtain ⟨HE⟩ : Nonempty (Hid (n4 = n3)) := ⟨by
          show _ = _
          rw [← Hn4.out]
          unfold refN4
          rw [show refN3 ⟨(ta, tn), ⟨P, f, m, o, T⟩, u⟩ ⟨(ta', tn'), ⟨P', f', m', o', T'⟩, u'⟩ = n3 from Hn3.out, if_neg h0]⟩
        clear h0
        go_wp2_with fail
        go_meet
        case rel => exact ⟨by rw [HE.out], HA⟩
    clear HA
    obtain ⟨rfl, HA⟩ := hcut
    go_wp2_with fail
    go_ret
    exact ⟨by rw [HR.out, show refN4 ⟨(ta, tn), ⟨P, f, m, o, T⟩, u⟩ ⟨(ta', tn'), ⟨P', f', m', o', T'⟩, u'⟩ = n4 from Hn4.out]; rfl, HA.out.1⟩
end Go.Proofs.Ytkcacdlgmapjjaa
