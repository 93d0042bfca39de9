/-
  The document's AttrFault: what it returns at every attribute.
-/
import Derived.Test.YtbfdgflbflajdaaGreatDoorGB
namespace Go.Proofs.YtbfdgflbflajdaaGreatDoor
open Go.RowKit

/-- the attribute's copy and the answer's place, while AttrFault runs. -/
def AF (w wr : World) (B : Nat) (va : Array Value) : Prop :=
  wr.heap[B]? = some (.cells va 24 (0, 0)) ∧ wr.heap[B + 1]? = some (.cells #[.int .i64 0, .int .i64 0] 43 (0, 0)) ∧ Below B w wr
theorem AF.on {w wr w' : World} {B : Nat} {va : Array Value} (h : AF w wr B va) (hb : Below wr.heap.size wr w') : AF w w' B va := by
  obtain ⟨a, b, c⟩ := h
  have l1 := (Array.getElem?_eq_some_iff.1 a).1
  have l2 := (Array.getElem?_eq_some_iff.1 b).1
  exact ⟨by rw [hb.block B l1]; exact a, by rw [hb.block (B + 1) l2]; exact b, c.trans (hb.mono (Nat.le_of_lt l1))⟩
theorem af_start (w : World) (va : Array Value) : AF w ((w.alloc (.cells va 24)).alloc (.cells #[.int .i64 0, .int .i64 0] 43)) w.heap.size va := by
  have a : (w.alloc (.cells va 24)).heap[w.heap.size]? = some (.cells va 24 (0, 0)) := Go.heap_alloc_new w _
  have l1 := (Array.getElem?_eq_some_iff.1 a).1
  have b := Go.heap_alloc_new (w.alloc (.cells va 24)) (.cells #[.int .i64 0, .int .i64 0] 43)
  have hs : (w.alloc (.cells va 24)).heap.size = w.heap.size + 1 := by simp
  rw [hs] at b
  exact ⟨by rw [(below_alloc (w.alloc (.cells va 24)) _).block _ l1]; exact a, b, below_two _ _ _⟩
theorem AF.res {w wr : World} {B : Nat} {va : Array Value} (h : AF w wr B va) : wr.cell? ⟨B + 1, 0, none⟩ = some (.int .i64 0) ∧ wr.cell? ⟨B + 1, 1, none⟩ = some (.int .i64 0) ∧ wr.frozen? ⟨B + 1, 0, none⟩ = false ∧ wr.frozen? ⟨B + 1, 1, none⟩ = false := by
  refine ⟨?_, ?_, ?_, ?_⟩ <;> simp [World.cell?, World.frozen?, h.2.1]
theorem AF.arg {w wr : World} {B : Nat} {a b c d e : Value} (h : AF w wr B #[a, b, c, d, e]) : wr.cell? ⟨B, 0, none⟩ = some a ∧ wr.cell? ⟨B, 1, none⟩ = some b ∧ wr.cell? ⟨B, 2, none⟩ = some c ∧ wr.cell? ⟨B, 3, none⟩ = some d ∧ wr.cell? ⟨B, 4, none⟩ = some e := by
  refine ⟨?_, ?_, ?_, ?_, ?_⟩ <;> simp [World.cell?, h.1]
theorem AF.cell {w wr : World} {B : Nat} {va : Array Value} (h : AF w wr B va) (hB : w.heap.size = B) {p : Addr} {x : Value} (hx : w.cell? p = some x) : wr.cell? p = some x := cell_kept (by rw [hB]; exact h.2.2) hx
theorem below_end {B : Nat} {w w1 : World} (h : Below B w w1) (u v : Value) : Below B w ((w1.setCell ⟨B + 1, 0, none⟩ u).setCell ⟨B + 1, 1, none⟩ v) := (h.setCell (by simp) _).setCell (by simp) _
theorem getD_at {L : List Int} {j : Nat} (h : j < L.length) : L.getD j 0 = L[j] := by simp [List.getD, h]

set_option linter.unusedVariables false in
set_option maxRecDepth 100000 in
set_option maxHeartbeats 4000000 in
theorem rAttrFault_any (v : Value) (A : At) (w : World) (h : IsAttr w v A) (h1 : A.path.length ≤ 1000000) (h2 : A.tags.length ≤ 1000000) (f0 f1 : Int) (hf : Hid (faultA A = (f0, f1))) :
    Calls Tryz.prog 19 #[v] w fun r w' => r = .returned (.agg #[.int .i64 f0, .int .i64 f1]) ∧ Below w.heap.size w w' := by
  obtain ⟨p, cp, q, cq, rfl, i1, i2⟩ := h
  obtain ⟨P, f, m, o, T⟩ := A
  simp only at *
  by_cases g1 : fullA ⟨P, f, m, o, T⟩ = true
  · have hff : (7 : Int) = f0 ∧ (-1 : Int) = f1 := by
      have h := hf.out
      unfold faultA at h
      rw [if_pos g1] at h
      simpa using h
    obtain ⟨rfl, rfl⟩ := hff
    have g2 : decide (12 < (P.length : Int)) = true ∨ (decide (12 < (P.length : Int)) = false ∧ decide (8 < (T.length : Int)) = true) := by
      simp only [fullA, Bool.or_eq_true, decide_eq_true_eq, decide_eq_false_iff_not] at g1 ⊢
      omega
    clear i1 i2 hf g1
    rcases g2 with e1 | ⟨e1, e2⟩
    all_goals
      go_enter Tryz.func19, Tryz.ntmps19
      go_wp2_with fail
      refine (aBare_any _ _).mono ?_
      rintro e w1 ⟨rfl, hb1⟩
      have hA := (af_start w _).on hb1
      obtain ⟨s0, s1, z0, z1⟩ := hA.res
      obtain ⟨HA⟩ : Nonempty (Hid (Below w.heap.size w w1)) := ⟨hA.2.2⟩
      clear hb1 hA
      go_wp2_with fail
      exact bodyPost_ret (v := .agg #[.int .i64 7, .int .i64 (-1)]) (by simp [results, Tryz.results19, go_sem, s0, s1]) rfl ⟨rfl, below_end HA.out _ _⟩
  · have g2 : decide (12 < (P.length : Int)) = false ∧ decide (8 < (T.length : Int)) = false := by
      simp only [fullA, Bool.or_eq_true, decide_eq_true_eq, decide_eq_false_iff_not] at g1 ⊢
      omega
    obtain ⟨e1, e2⟩ := g2
    have hF : Hid (faultA ⟨P, f, m, o, T⟩ = if firstN (badP P) P.length < P.length then (2, (firstN (badP P) P.length : Int)) else if numsA ⟨P, f, m, o, T⟩ then (2, -1) else if firstN (badT T) T.length < T.length then (if outB (T.getD (firstN (badT T) T.length) 0) 9999 then (2, (firstN (badT T) T.length : Int)) else (8, (firstN (badT T) T.length : Int))) else (0, -1)) := by
      show faultA _ = _
      conv => lhs; unfold faultA
      rw [if_neg g1]
    have hF2 : Hid ((if firstN (badP P) P.length < P.length then ((2 : Int), (firstN (badP P) P.length : Int)) else if numsA ⟨P, f, m, o, T⟩ then (2, -1) else if firstN (badT T) T.length < T.length then (if outB (T.getD (firstN (badT T) T.length) 0) 9999 then (2, (firstN (badT T) T.length : Int)) else (8, (firstN (badT T) T.length : Int))) else (0, -1)) = (f0, f1)) := hF.out.symm.trans hf.out
    obtain ⟨HI⟩ : Nonempty (Hid (Ints w p P ∧ Ints w q T)) := ⟨⟨i1, i2⟩⟩
    obtain ⟨HS⟩ : Nonempty (Hid (AF w _ _ _)) := ⟨af_start w #[.slice p P.length cp, .int .i64 f, .int .i64 m, .int .i64 o, .slice q T.length cq]⟩
    obtain ⟨B, hB⟩ : ∃ B, Hid (w.heap.size = B) := ⟨_, show _ = _ from rfl⟩
    rw [show w.heap.size = B from hB.out] at HS
    rw [show w.heap.size = B from hB.out]
    clear i1 i2 hf g1 hF
    go_enter Tryz.func19, Tryz.ntmps19
    go_wp2_with fail
    rw [show w.heap.size = B from hB.out]
    go_loopw [3] (fun z wr => ∃ k : Nat, z = .int .i64 k ∧ k ≤ P.length ∧ Hid (k ≤ firstN (badP P) P.length ∧ AF w wr B #[.slice p P.length cp, .int .i64 f, .int .i64 m, .int .i64 o, .slice q T.length cq])) (fun z _ => P.length - (intOf z).toNat)
    case atStart => exact ⟨0, rfl, Nat.zero_le _, ⟨Nat.zero_le _, HS.out⟩⟩
    case round =>
      clear HS
      obtain ⟨k, rfl, hk, HX⟩ := hrel
      obtain ⟨c0, c1, c2, c3, c4⟩ := HX.out.2.arg
      by_cases hlt : k < P.length
      · have q3 : (k : Int) < P.length := by omega
        obtain ⟨b0, o0, rfl, x0⟩ := HI.out.1 k hlt
        have d0 := HX.out.2.cell hB.out x0
        obtain ⟨x, hx⟩ : ∃ x, Hid (P[k] = x) := ⟨_, show _ = _ from rfl⟩
        rw [show P[k] = x from hx.out] at d0
        obtain ⟨HB⟩ : Nonempty (Hid (badP P k = outB x 1000)) := ⟨show _ = _ by unfold badP; rw [getD_at hlt, hx.out]⟩
        clear x0
        by_cases hx1 : outB x 1000 = true
        · have hff : (2 : Int) = f0 ∧ (k : Int) = f1 := by
            have e := firstN_here HX.out.1 (HB.out.trans hx1)
            have h := hF2.out
            rw [e, if_pos hlt] at h
            simpa using h
          obtain ⟨rfl, rfl⟩ := hff
          have g2 : decide (x < 1) = true ∨ (decide (x < 1) = false ∧ decide (1000 < x) = true) := by
            simp only [outB, Bool.or_eq_true, decide_eq_true_eq, decide_eq_false_iff_not] at hx1 ⊢
            omega
          obtain ⟨s0, s1, z0, z1⟩ := HX.out.2.res
          clear hx1 hF2 HB
          rcases g2 with y1 | ⟨y1, y2⟩
          all_goals
            go_wp2_with fail
            exact bodyPost_ret (v := .agg #[.int .i64 2, .int .i64 k]) (by simp [results, Tryz.results19, go_sem, s0, s1]) rfl ⟨rfl, below_end HX.out.2.2.2 _ _⟩
        · have y1 : decide (x < 1) = false := by simp [outB] at hx1; exact decide_eq_false (by omega)
          have y2 : decide (1000 < x) = false := by simp [outB] at hx1; exact decide_eq_false (by omega)
          obtain ⟨HN⟩ : Nonempty (Hid (k + 1 ≤ firstN (badP P) P.length)) := ⟨firstN_step HX.out.1 hlt (HB.out.trans (by simpa using hx1))⟩
          clear hx1 HB
          go_wp2_with fail
          go_roundw
          case rel => exact ⟨k + 1, by go_num, by omega, ⟨HN.out, HX.out.2⟩⟩
          case measure => simp [intOf]; omega
      · obtain rfl : k = P.length := by omega
        have hF3 : Hid ((if numsA ⟨P, f, m, o, T⟩ then ((2 : Int), (-1 : Int)) else if firstN (badT T) T.length < T.length then (if outB (T.getD (firstN (badT T) T.length) 0) 9999 then (2, (firstN (badT T) T.length : Int)) else (8, (firstN (badT T) T.length : Int))) else (0, -1)) = (f0, f1)) := by
          have h := hF2.out
          rw [firstN_end HX.out.1, if_neg (by omega)] at h
          exact h
        clear hF2
        by_cases g1 : numsA ⟨P, f, m, o, T⟩ = true
        · have hff : (2 : Int) = f0 ∧ (-1 : Int) = f1 := by
            have h := hF3.out
            rw [if_pos g1] at h
            simpa using h
          obtain ⟨rfl, rfl⟩ := hff
          have g2 : decide (f < 0) = true ∨ (decide (f < 0) = false ∧ decide (1000 < f) = true) ∨ (decide (f < 0) = false ∧ decide (1000 < f) = false ∧ decide (m < 0) = true) ∨ (decide (f < 0) = false ∧ decide (1000 < f) = false ∧ decide (m < 0) = false ∧ decide (1000 < m) = true) ∨ (decide (f < 0) = false ∧ decide (1000 < f) = false ∧ decide (m < 0) = false ∧ decide (1000 < m) = false ∧ decide (o < 0) = true) ∨ (decide (f < 0) = false ∧ decide (1000 < f) = false ∧ decide (m < 0) = false ∧ decide (1000 < m) = false ∧ decide (o < 0) = false ∧ decide (2 < o) = true) := by
            simp only [numsA, Bool.or_eq_true, decide_eq_true_eq, decide_eq_false_iff_not] at g1 ⊢
            omega
          clear g1 hF3
          rcases g2 with y1 | ⟨y1, y2⟩ | ⟨y1, y2, y3⟩ | ⟨y1, y2, y3, y4⟩ | ⟨y1, y2, y3, y4, y5⟩ | ⟨y1, y2, y3, y4, y5, y6⟩
          all_goals
            go_wp2_with fail
            refine (aBare_any _ _).mono ?_
            rintro e w1 ⟨rfl, hb1⟩
            have hA := HX.out.2.on hb1
            obtain ⟨s0, s1, z0, z1⟩ := hA.res
            obtain ⟨HA⟩ : Nonempty (Hid (Below B w w1)) := ⟨hA.2.2⟩
            clear hb1 hA c0 c1 c2 c3 c4
            go_wp2_with fail
            exact bodyPost_ret (v := .agg #[.int .i64 2, .int .i64 (-1)]) (by simp [results, Tryz.results19, go_sem, s0, s1]) rfl ⟨rfl, below_end HA.out _ _⟩
        · have g2 : decide (f < 0) = false ∧ decide (1000 < f) = false ∧ decide (m < 0) = false ∧ decide (1000 < m) = false ∧ decide (o < 0) = false ∧ decide (2 < o) = false := by
            simp only [numsA, Bool.or_eq_true, decide_eq_true_eq, decide_eq_false_iff_not] at g1 ⊢
            omega
          obtain ⟨y1, y2, y3, y4, y5, y6⟩ := g2
          have hF4 : Hid ((if firstN (badT T) T.length < T.length then (if outB (T.getD (firstN (badT T) T.length) 0) 9999 then ((2 : Int), (firstN (badT T) T.length : Int)) else (8, (firstN (badT T) T.length : Int))) else (0, -1)) = (f0, f1)) := by
            have h := hF3.out
            rw [if_neg g1] at h
            exact h
          clear g1 hF3
          go_wp2_with fail
          go_loopw [4] (fun z wr => ∃ k : Nat, z = .int .i64 k ∧ k ≤ T.length ∧ Hid (k ≤ firstN (badT T) T.length ∧ AF w wr B #[.slice p P.length cp, .int .i64 f, .int .i64 m, .int .i64 o, .slice q T.length cq])) (fun z _ => T.length - (intOf z).toNat)
          case atStart => exact ⟨0, rfl, Nat.zero_le _, ⟨Nat.zero_le _, HX.out.2⟩⟩
          case round =>
            clear HX c0 c1 c2 c3 c4
            obtain ⟨k, rfl, hk, HX⟩ := hrel
            obtain ⟨c0, c1, c2, c3, c4⟩ := HX.out.2.arg
            by_cases hlt : k < T.length
            · have q3 : (k : Int) < T.length := by omega
              obtain ⟨b0, o0, rfl, x0⟩ := HI.out.2 k hlt
              have d0 := HX.out.2.cell hB.out x0
              obtain ⟨x, hx⟩ : ∃ x, Hid (T[k] = x) := ⟨_, show _ = _ from rfl⟩
              rw [show T[k] = x from hx.out] at d0
              clear x0
              by_cases hx1 : outB x 9999 = true
              · have hff : (2 : Int) = f0 ∧ (k : Int) = f1 := by
                  have e := firstN_here HX.out.1 (show badT T k = true by unfold badT; rw [getD_at hlt, hx.out, hx1]; rfl)
                  have h := hF4.out
                  rw [e, if_pos hlt, getD_at hlt, hx.out, if_pos hx1] at h
                  simpa using h
                obtain ⟨rfl, rfl⟩ := hff
                have g2 : decide (x < 1) = true ∨ (decide (x < 1) = false ∧ decide (9999 < x) = true) := by
                  simp only [outB, Bool.or_eq_true, decide_eq_true_eq, decide_eq_false_iff_not] at hx1 ⊢
                  omega
                obtain ⟨s0, s1, z0, z1⟩ := HX.out.2.res
                clear hx1 hF4 y1 y2 y3 y4 y5 y6
                rcases g2 with y1 | ⟨y1, y2⟩
                all_goals
                  go_wp2_with fail
                  exact bodyPost_ret (v := .agg #[.int .i64 2, .int .i64 k]) (by simp [results, Tryz.results19, go_sem, s0, s1]) rfl ⟨rfl, below_end HX.out.2.2.2 _ _⟩
              · clear y1 y2 y3 y4 y5 y6
                have y1 : decide (x < 1) = false := by simp [outB] at hx1; exact decide_eq_false (by omega)
                have y2 : decide (9999 < x) = false := by simp [outB] at hx1; exact decide_eq_false (by omega)
                have HO : Hid (outB x 9999 = false) := by show _ = _; simpa using hx1
                clear hx1
                by_cases hk0 : k = 0
                · obtain ⟨HN⟩ : Nonempty (Hid (k + 1 ≤ firstN (badT T) T.length)) := ⟨firstN_step HX.out.1 hlt (show badT T k = false by unfold badT; rw [getD_at hlt, hx.out, HO.out, hk0]; rfl)⟩
                  have hgz : ¬ (0 < k) := by omega
                  have hgz2 : decide (0 < k) = false := decide_eq_false hgz
                  clear hk0
                  go_wp2_with fail
                  go_roundw
                  case rel => exact ⟨k + 1, by go_num, by omega, ⟨HN.out, HX.out.2⟩⟩
                  case measure => simp [intOf]; omega
                · obtain ⟨j, rfl⟩ : ∃ j, k = j + 1 := ⟨k - 1, by omega⟩
                  have hjl : j < T.length := by omega
                  have q5 : (j : Int) < T.length := by omega
                  obtain ⟨b1, o1, he, x1⟩ := HI.out.2 j hjl
                  simp only [Option.some.injEq, Addr.mk.injEq, and_true] at he
                  obtain ⟨rfl, rfl⟩ := he
                  have d1 := HX.out.2.cell hB.out x1
                  obtain ⟨y, hy⟩ : ∃ x, Hid (T[j] = x) := ⟨_, show _ = _ from rfl⟩
                  rw [show T[j] = y from hy.out] at d1
                  have HBT : Hid (badT T (j + 1) = decide (x ≤ y)) := by
                    show _ = _
                    unfold badT
                    rw [getD_at hlt, hx.out, HO.out, show j + 1 - 1 = j from rfl, getD_at hjl, hy.out]
                    simp
                  have hw : IntKind.i64.wrap (((j + 1 : Nat) : Int) - 1) = (j : Int) := by rw [wrapi _ (by omega)]; omega
                  have hgz : decide ((0 : Int) < ((j + 1 : Nat) : Int)) = true := decide_eq_true (by omega)
                  clear x1 hk0
                  by_cases hxy : x ≤ y
                  · have hxy' : decide (x ≤ y) = true := decide_eq_true hxy
                    have hff : (8 : Int) = f0 ∧ ((j + 1 : Nat) : Int) = f1 := by
                      have e := firstN_here HX.out.1 (HBT.out.trans hxy')
                      have h := hF4.out
                      rw [e, if_pos hlt, getD_at hlt, hx.out, HO.out] at h
                      simpa using h
                    obtain ⟨rfl, rfl⟩ := hff
                    obtain ⟨s0, s1, z0, z1⟩ := HX.out.2.res
                    clear hF4 hxy
                    go_wp2_with fail
                    go_quiet (fail)
                    go_wp2_with fail
                    exact bodyPost_ret (v := .agg #[.int .i64 8, .int .i64 ((j : Int) + 1)]) (by simp [results, Tryz.results19, go_sem, s0, s1]) rfl ⟨by simp, below_end (below_drewN HX.out.2.2.2 _) _ _⟩
                  · have hxy' : decide (x ≤ y) = false := decide_eq_false hxy
                    obtain ⟨HN⟩ : Nonempty (Hid (j + 1 + 1 ≤ firstN (badT T) T.length)) := ⟨firstN_step HX.out.1 hlt (HBT.out.trans hxy')⟩
                    clear hxy
                    go_wp2_with fail
                    go_quiet (fail)
                    go_wp2_with fail
                    go_roundw
                    case rel => first | exact ⟨j + 1 + 1, by go_num, by omega, ⟨HN.out, HX.out.2.on (below_drewN (Below.refl _ _) _)⟩⟩ | ((repeat apply Exists.intro); exact ⟨⟨j + 1 + 1, by go_num, by omega, ⟨HN.out, HX.out.2.on (below_drewN (Below.refl _ _) _)⟩⟩, rfl⟩)
                    case measure => simp [intOf]; omega
            · obtain rfl : k = T.length := by omega
              have hff : (0 : Int) = f0 ∧ (-1 : Int) = f1 := by
                have h := hF4.out
                rw [firstN_end HX.out.1, if_neg (by omega)] at h
                simpa using h
              obtain ⟨rfl, rfl⟩ := hff
              clear hF4 y1 y2 y3 y4 y5 y6
              go_wp2_with fail
              refine (aFine_any _).mono ?_
              rintro e w1 ⟨rfl, hb1⟩
              have hA := HX.out.2.on hb1
              obtain ⟨s0, s1, z0, z1⟩ := hA.res
              obtain ⟨HA⟩ : Nonempty (Hid (Below B w w1)) := ⟨hA.2.2⟩
              clear hb1 hA c0 c1 c2 c3 c4
              go_wp2_with fail
              exact bodyPost_ret (v := .agg #[.int .i64 0, .int .i64 (-1)]) (by simp [results, Tryz.results19, go_sem, s0, s1]) rfl ⟨rfl, below_end HA.out _ _⟩
end Go.Proofs.YtbfdgflbflajdaaGreatDoor
