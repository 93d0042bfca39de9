/-
  The document's LeadOf: a path led by a system.
  slices.Equal, slices.Contains and slices.Clone of whole numbers, in the words of these proofs; package attr's Same, Through and Own.
-/
import Derived.Test.YtnifhaopjhgmnaaGreatDoorGC
import Derived.Test.YtnifhaopjhgmnaaGreatDoorGF
namespace Go.Proofs.YtnifhaopjhgmnaaGreatDoor
open Go.RowKit

/-- the error's number of a lead (0: none). -/
def leadC (A : At) (x n : Int) : Int :=
  if 0 < (faultA A).1 then (faultA A).1
  else if x < 1 ∨ 1000 < x ∨ n < 0 ∨ 12 < n then 2
  else if 12 < (A.path.length : Int) + n then 7
  else 0
def leadA (A : At) (x n : Int) : At := { A with path := List.replicate n.toNat x ++ A.path }
def noneA : At := ⟨[], 0, 0, 0, []⟩
theorem attrK_none (w : World) : AttrK w (.agg #[.slice none 0 0, .int .i64 0, .int .i64 0, .int .i64 0, .slice none 0 0]) noneA :=
  ⟨none, 0, none, 0, rfl, ints_nil _ _, ints_nil _ _, .inl ⟨rfl, rfl, rfl⟩, .inl ⟨rfl, rfl, rfl⟩⟩

set_option linter.unusedVariables false in
set_option maxRecDepth 100000 in
set_option maxHeartbeats 4000000 in
theorem rLeadOf_bad (v : Value) (A : At) (x n : Int) (w : World) (h : AttrK w v A) (h1 : A.path.length ≤ 1000000) (h2 : A.tags.length ≤ 1000000) (hf : 0 < (faultA A).1) :
    Calls Tryz.prog 37 #[v, .int .i64 x, .int .i64 n] w fun r w' => (∃ v', r = .returned (.tuple #[v', .int .i64 (leadC A x n)]) ∧ AttrK w' v' noneA) ∧ Below w.heap.size w w' := by
  have e0 : leadC A x n = (faultA A).1 := by unfold leadC; rw [if_pos hf]
  rw [e0]
  obtain ⟨f0, hf0⟩ : ∃ x, Hid ((faultA A).1 = x) := ⟨_, show _ = _ from rfl⟩
  obtain ⟨f1, hf1⟩ : ∃ x, Hid ((faultA A).2 = x) := ⟨_, show _ = _ from rfl⟩
  have HF : Hid (faultA A = (f0, f1)) := by show _ = _; rw [← hf0.out, ← hf1.out]
  have hpos : 0 < f0 := by rw [← hf0.out]; exact hf
  rw [show (faultA A).1 = f0 from hf0.out]
  have HC : Hid (∀ w', Below w.heap.size w w' → Calls _ _ _ _ _) := fun w' hb => rAttrFault_any v A w' (h.attr.below hb) h1 h2 f0 f1 HF
  obtain ⟨p, cp, q, cq, rfl, -, -, -, -⟩ := h
  obtain ⟨P, f, m, o, T⟩ := A
  simp only at *
  clear hf HF hf0 hf1 e0
  have hfd := field_code f0 f1
  go_enter Tryz.func37, Tryz.ntmps37
  go_wp2_with fail
  refine (HC.out _ (below_two _ _ _)).mono ?_
  rintro e w1 ⟨rfl, hb1⟩
  have hx := (ax_start w _ _).on hb1
  obtain ⟨HB1⟩ : Nonempty (Hid (Below w.heap.size w w1)) := ⟨hx.2.2⟩
  obtain ⟨r0, r1, r2, r3, r4⟩ := hx.res
  have y0 := (hx.soft 0).2
  have y1 := (hx.soft 1).2
  have y2 := (hx.soft 2).2
  have y3 := (hx.soft 3).2
  have y4 := (hx.soft 4).2
  clear hb1 HC hx
  go_wp2_with fail
  refine bodyPost_ret (v := .tuple #[.agg #[.slice none 0 0, .int .i64 0, .int .i64 0, .int .i64 0, .slice none 0 0], .int .i64 f0]) (by simp [results, Tryz.results37, go_sem, r0, r1, r2, r3, r4]) rfl ⟨⟨_, rfl, attrK_none _⟩, ?_⟩
  exact ((((HB1.out.setCell (by simp) _).setCell (by simp) _).setCell (by simp) _).setCell (by simp) _).setCell (by simp) _

set_option linter.unusedVariables false in
set_option maxRecDepth 100000 in
set_option maxHeartbeats 4000000 in
theorem rLeadOf_bound (v : Value) (A : At) (x n : Int) (w : World) (h : AttrK w v A) (hA : RightA A) (hb : x < 1 ∨ 1000 < x ∨ n < 0 ∨ 12 < n) :
    Calls Tryz.prog 37 #[v, .int .i64 x, .int .i64 n] w fun r w' => (∃ v', r = .returned (.tuple #[v', .int .i64 (leadC A x n)]) ∧ AttrK w' v' noneA) ∧ Below w.heap.size w w' := by
  have e0 : (faultA A).1 = 0 := by rw [fault_of_right hA]
  have HC : Hid (∀ w', Below w.heap.size w w' → Calls _ _ _ _ _) := fun w' hb => rAttrFault_any v A w' (h.attr.below hb) (by have := hA.path; omega) (by have := hA.tags; omega) 0 (-1) (fault_of_right hA)
  have e1 : leadC A x n = 2 := by unfold leadC; rw [if_neg (by omega), if_pos hb]
  rw [e1]
  have g2 : decide (x < 1) = true ∨ (decide (x < 1) = false ∧ decide (1000 < x) = true) ∨ (decide (x < 1) = false ∧ decide (1000 < x) = false ∧ decide (n < 0) = true) ∨ (decide (x < 1) = false ∧ decide (1000 < x) = false ∧ decide (n < 0) = false ∧ decide (12 < n) = true) := by
    simp only [decide_eq_true_eq, decide_eq_false_iff_not]
    omega
  obtain ⟨p, cp, q, cq, rfl, -, -, -, -⟩ := h
  obtain ⟨P, f, m, o, T⟩ := A
  simp only at *
  clear hA e0 e1 hb
  have hfd := field_code 0 (-1)
  rcases g2 with g1 | ⟨g1, g2⟩ | ⟨g1, g2, g3⟩ | ⟨g1, g2, g3, g4⟩
  all_goals
    go_enter Tryz.func37, Tryz.ntmps37
    go_wp2_with fail
    refine (HC.out _ (below_two _ _ _)).mono ?_
    rintro e w1 ⟨rfl, hb1⟩
    have hx := (ax_start w _ _).on hb1
    obtain ⟨HB1⟩ : Nonempty (Hid (Below w.heap.size w w1)) := ⟨hx.2.2⟩
    obtain ⟨a0, a1, a2, a3, a4⟩ := hx.arg
    obtain ⟨r0, r1, r2, r3, r4⟩ := hx.res
    have y0 := (hx.soft 0).2
    have y1 := (hx.soft 1).2
    have y2 := (hx.soft 2).2
    have y3 := (hx.soft 3).2
    have y4 := (hx.soft 4).2
    clear hb1 HC hx
    go_wp2_with fail
    refine bodyPost_ret (v := .tuple #[.agg #[.slice none 0 0, .int .i64 0, .int .i64 0, .int .i64 0, .slice none 0 0], .int .i64 2]) (by simp [results, Tryz.results37, go_sem, r0, r1, r2, r3, r4]) rfl ⟨⟨_, rfl, attrK_none _⟩, ?_⟩
    exact ((((HB1.out.setCell (by simp) _).setCell (by simp) _).setCell (by simp) _).setCell (by simp) _).setCell (by simp) _

set_option linter.unusedVariables false in
set_option maxRecDepth 100000 in
set_option maxHeartbeats 4000000 in
theorem rLeadOf_full (v : Value) (A : At) (x n : Int) (w : World) (h : AttrK w v A) (hA : RightA A) (hb : ¬ (x < 1 ∨ 1000 < x ∨ n < 0 ∨ 12 < n)) (hn : 12 < (A.path.length : Int) + n) :
    Calls Tryz.prog 37 #[v, .int .i64 x, .int .i64 n] w fun r w' => (∃ v', r = .returned (.tuple #[v', .int .i64 (leadC A x n)]) ∧ AttrK w' v' noneA) ∧ Below w.heap.size w w' := by
  have e0 : (faultA A).1 = 0 := by rw [fault_of_right hA]
  have HC : Hid (∀ w', Below w.heap.size w w' → Calls _ _ _ _ _) := fun w' hb => rAttrFault_any v A w' (h.attr.below hb) (by have := hA.path; omega) (by have := hA.tags; omega) 0 (-1) (fault_of_right hA)
  have e1 : leadC A x n = 7 := by unfold leadC; rw [if_neg (by omega), if_neg hb, if_pos hn]
  rw [e1]
  have g1 : decide (x < 1) = false := decide_eq_false (by omega)
  have g2 : decide (1000 < x) = false := decide_eq_false (by omega)
  have g3 : decide (n < 0) = false := decide_eq_false (by omega)
  have g4 : decide (12 < n) = false := decide_eq_false (by omega)
  have hpl := hA.path
  have g5 : IntKind.i64.wrap ((A.path.length : Int) + n) = (A.path.length : Int) + n := wrapi _ (by omega)
  have g6 : decide (12 < (A.path.length : Int) + n) = true := decide_eq_true hn
  obtain ⟨p, cp, q, cq, rfl, -, -, -, -⟩ := h
  obtain ⟨P, f, m, o, T⟩ := A
  simp only at *
  clear hA e0 e1 hb
  have hfd := field_code 0 (-1)
  go_enter Tryz.func37, Tryz.ntmps37
  go_wp2_with fail
  refine (HC.out _ (below_two _ _ _)).mono ?_
  rintro e w1 ⟨rfl, hb1⟩
  have hx := (ax_start w _ _).on hb1
  obtain ⟨HB1⟩ : Nonempty (Hid (Below w.heap.size w w1)) := ⟨hx.2.2⟩
  obtain ⟨a0, a1, a2, a3, a4⟩ := hx.arg
  obtain ⟨r0, r1, r2, r3, r4⟩ := hx.res
  have y0 := (hx.soft 0).2
  have y1 := (hx.soft 1).2
  have y2 := (hx.soft 2).2
  have y3 := (hx.soft 3).2
  have y4 := (hx.soft 4).2
  clear hb1 HC hx
  go_wp2_with fail
  refine bodyPost_ret (v := .tuple #[.agg #[.slice none 0 0, .int .i64 0, .int .i64 0, .int .i64 0, .slice none 0 0], .int .i64 7]) (by simp [results, Tryz.results37, go_sem, r0, r1, r2, r3, r4]) rfl ⟨⟨_, rfl, attrK_none _⟩, ?_⟩
  exact ((((HB1.out.setCell (by simp) _).setCell (by simp) _).setCell (by simp) _).setCell (by simp) _).setCell (by simp) _
theorem AX.on' {w wr w' : World} {B S : Nat} {va vr : Array Value} (h : AX w wr B va vr) (hb : Below S wr w') (hS : B + 1 < S) : AX w w' B va vr := by
  obtain ⟨a, b, c⟩ := h
  exact ⟨by rw [hb.block B (by omega)]; exact a, by rw [hb.block (B + 1) hS]; exact b, c.trans (hb.mono (by omega))⟩

set_option linter.unusedVariables false in
set_option maxRecDepth 100000 in
set_option maxHeartbeats 4000000 in
theorem rLeadOf_right (v : Value) (A : At) (x n : Int) (w : World) (h : AttrK w v A) (hA : RightA A) (hb : ¬ (x < 1 ∨ 1000 < x ∨ n < 0 ∨ 12 < n)) (hn : ¬ 12 < (A.path.length : Int) + n) :
    Calls Tryz.prog 37 #[v, .int .i64 x, .int .i64 n] w fun r w' => (∃ v', r = .returned (.tuple #[v', .int .i64 (leadC A x n)]) ∧ AttrK w' v' (leadA A x n)) ∧ Below w.heap.size w w' := by
  have e0 : (faultA A).1 = 0 := by rw [fault_of_right hA]
  have HC : Hid (∀ w', Below w.heap.size w w' → Calls _ _ _ _ _) := fun w' hb => rAttrFault_any v A w' (h.attr.below hb) (by have := hA.path; omega) (by have := hA.tags; omega) 0 (-1) (fault_of_right hA)
  have e1 : leadC A x n = 0 := by unfold leadC; rw [if_neg (by omega), if_neg hb, if_neg hn]
  rw [e1]
  have g1 : decide (x < 1) = false := decide_eq_false (by omega)
  have g2 : decide (1000 < x) = false := decide_eq_false (by omega)
  have hpl := hA.path
  obtain ⟨N, rfl⟩ : ∃ N : Nat, n = (N : Int) := ⟨n.toNat, by omega⟩
  have g3 : decide ((N : Int) < 0) = false := decide_eq_false (by omega)
  have g4 : decide (12 < (N : Int)) = false := decide_eq_false (by omega)
  have hN : N ≤ 12 := by omega
  have g5 : IntKind.i64.wrap ((A.path.length : Int) + N) = (A.path.length : Int) + N := wrapi _ (by omega)
  have g6 : decide (12 < (A.path.length : Int) + N) = false := decide_eq_false hn
  obtain ⟨i0, hi, hz0, hz1, hz2⟩ := info_parts infoInt
  obtain ⟨p, cp, q, cq, rfl, i1, i2, k1, k2⟩ := h
  obtain ⟨P, f, m, o, T⟩ := A
  simp only at *
  obtain ⟨HK⟩ : Nonempty (Hid (Ints w p P ∧ Ints w q T ∧ Kind1 p P.length cp ∧ Kind1 q T.length cq)) := ⟨⟨i1, i2, k1, k2⟩⟩
  clear hA e0 e1 hb i1 i2 k1 k2 hn
  have hfd := field_code 0 (-1)
  go_enter Tryz.func37, Tryz.ntmps37
  go_wp2_with fail
  refine (HC.out _ (below_two _ _ _)).mono ?_
  rintro e w1 ⟨rfl, hb1⟩
  have hx := (ax_start w _ _).on hb1
  obtain ⟨H1⟩ : Nonempty (Hid (AX w w1 w.heap.size _ _)) := ⟨hx⟩
  obtain ⟨a0, a1, a2, a3, a4⟩ := hx.arg
  obtain ⟨B, hB⟩ : ∃ B, Hid (w.heap.size = B) := ⟨_, show _ = _ from rfl⟩
  rw [show w.heap.size = B from hB.out] at a0 a1 a2 a3 a4 H1 ⊢
  clear hb1 HC hx
  go_wp2_with fail
  obtain ⟨S, hS⟩ : ∃ S, Hid (w1.heap.size = S) := ⟨_, show _ = _ from rfl⟩
  obtain ⟨HLT⟩ : Nonempty (Hid (B + 1 < S)) := ⟨by rw [← show w1.heap.size = S from hS.out]; exact (Array.getElem?_eq_some_iff.1 H1.out.2.1).1⟩
  clear a0 a1 a2 a3 a4
  go_loopw [9, 10] (fun v i wr => ∃ (k : Nat) (done : List Int), i = .int .i64 k ∧ k ≤ N ∧ Hid (List.replicate k x = done) ∧ wr.ownsRow S 3 1 v done.length (done.map intV) ∧ Below S w1 wr) (fun _ i _ => N - (intOf i).toNat)
  case atStart => exact ⟨0, [], rfl, Nat.zero_le _, rfl, World.ownsRow_nil _ _ _ _, Below.refl _ _⟩
  case round =>
    obtain ⟨k, done, rfl, hkN, HD, hown, hnx⟩ := hrel
    have hSw : S ≤ wr.heap.size := by rw [← show w1.heap.size = S from hS.out]; exact hnx.size
    have hdl : done.length = k := by rw [← HD.out]; simp
    by_cases hlt : k < N
    · obtain ⟨HN⟩ : Nonempty (Hid (List.replicate (k + 1) x = done ++ [x])) := ⟨by show _ = _; rw [List.replicate_succ', HD.out]⟩
      go_wp2_with (at_builtin; refine wpList_append_own _ rfl _ _ 25 rfl S 3 i0 (.int .i64 0) 1 8 Tryz.underlying25 hi hz0 hz1 hz2 rfl (by decide) _ _ _ rfl (hown.alloc _) ⟨wr.heap.size, 0, none⟩ 1 1 [intV x] rfl rfl ?c1 ?c2 ?c3 ?c4 ?c5 ?_)
      case c1 =>
        intro j u hj
        match j, hj with
        | 0, hj => simp at hj; subst hj; simp [Addr.add, intV]
      case c2 => intro u hu; simp at hu; subst hu; rfl
      case c3 => unfold maxLen; omega
      case c4 => omega
      case c5 => simp; omega
      intro v' w2 hown' hgrow _
      have R := rel_int (x := x) hSw hown hnx (by rw [hdl]; exact hown') hgrow
      clear hown' hgrow hown hnx
      go_wp2_with fail
      go_roundw
      case rel => exact ⟨k + 1, done ++ [x], by go_num, by omega, HN, R.1, R.2⟩
      case measure => simp [intOf]; omega
    · obtain rfl : k = N := by omega
      have hx := H1.out.on' hnx HLT.out
      obtain ⟨HX⟩ : Nonempty (Hid (AX w wr B _ _)) := ⟨hx⟩
      obtain ⟨a0, a1, a2, a3, a4⟩ := hx.arg
      obtain ⟨HB0⟩ : Nonempty (Hid (Below w.heap.size w wr)) := ⟨by rw [show w.heap.size = B from hB.out]; exact hx.2.2⟩
      obtain ⟨O', hO'⟩ : ∃ O', Hid (done ++ P = O') := ⟨_, show _ = _ from rfl⟩
      clear hnx hx
      go_wp2_with (at_builtin; refine wp_addAll1 rfl _ _ 25 rfl S 3 i0 Tryz.underlying25 hi hz0 hz1 hz2 _ done rfl hown p P _ cp rfl rfl HK.out.2.2.1 (HK.out.1.below HB0.out) O' hO' (by omega) hSw ?_)
      intro v1 w2 ho1 hb1
      obtain ⟨p1, cp1, rfl, k1, hi1, hf1⟩ := own_kind' ho1
      have hx := HX.out.on' hb1 HLT.out
      obtain ⟨H2⟩ : Nonempty (Hid (AX w w2 B _ _ ∧ Ints w2 p1 O' ∧ Kind1 p1 O'.length cp1 ∧ (∀ b o, p1 = some ⟨b, o, none⟩ → B + 1 < b))) := ⟨⟨hx, hi1, k1, fun b o e => by have := hf1 b o e; have := HLT.out; omega⟩⟩
      clear a0 a1 a2 a3 a4
      obtain ⟨a0, a1, a2, a3, a4⟩ := hx.arg
      obtain ⟨r0, r1, r2, r3, r4⟩ := hx.res
      have z0 := (hx.soft 0).1
      have y0 := (hx.soft 0).2
      have y1 := (hx.soft 1).2
      have y2 := (hx.soft 2).2
      have y3 := (hx.soft 3).2
      have y4 := (hx.soft 4).2
      clear ho1 hb1 k1 hi1 hf1 hx HX hown
      go_wp2_with fail
      obtain ⟨HX, j1, k1, n1⟩ := H2.out
      have n1' : ∀ b o, p1 = some ⟨b, o, none⟩ → B < b := fun b o e => by have := n1 b o e; omega
      have eA : leadA ⟨P, f, m, o, T⟩ x (k : Int) = ⟨O', f, m, o, T⟩ := by
        unfold leadA
        simp only [Int.toNat_natCast]
        rw [HD.out, hO'.out]
      rw [eA]
      have hbE := (((((HX.2.2.setCell (p := ⟨B, 0, none⟩) (by simp) (.slice p1 O'.length cp1)).setCell (p := ⟨B + 1, 0, none⟩) (by simp) (.slice p1 O'.length cp1)).setCell (p := ⟨B + 1, 1, none⟩) (by simp) (.int .i64 f)).setCell (p := ⟨B + 1, 2, none⟩) (by simp) (.int .i64 m)).setCell (p := ⟨B + 1, 3, none⟩) (by simp) (.int .i64 o)).setCell (p := ⟨B + 1, 4, none⟩) (by simp) (.slice q T.length cq)
      refine bodyPost_ret (v := .tuple #[.agg #[.slice p1 O'.length cp1, .int .i64 f, .int .i64 m, .int .i64 o, .slice q T.length cq], .int .i64 0]) (by simp [results, Tryz.results37, go_sem, r0, r1, r2, r3, r4]) rfl ⟨⟨_, rfl, p1, cp1, q, cq, rfl, ?_, ?_, k1, HK.out.2.2.2⟩, ?_⟩
      · exact (((((j1.set n1' _ _).set n1 _ _).set n1 _ _).set n1 _ _).set n1 _ _).set n1 _ _
      · exact HK.out.2.1.below (by rw [show w.heap.size = B from hB.out]; exact hbE)
      · first | exact hbE | (rw [show w.heap.size = B from hB.out]; exact hbE)
end Go.Proofs.YtnifhaopjhgmnaaGreatDoor

namespace Go.Proofs.YtnifhaopjhgmnaaGreatDoor
open Go.RowKit
open scoped Classical

theorem ints_at {w : World} {p : Option Addr} {L : List Int} (h : Ints w p L) (h0 : 0 < L.length) : ∃ b o, p = some ⟨b, o, none⟩ ∧ ∀ j, j < L.length → w.cell? ⟨b, o + j, none⟩ = some (.int .i64 (L.getD j 0)) := by
  obtain ⟨b, o, rfl, -⟩ := h 0 h0
  refine ⟨b, o, rfl, fun j hj => ?_⟩
  obtain ⟨b', o', e, c⟩ := h j hj
  simp only [Option.some.injEq, Addr.mk.injEq, and_true] at e
  obtain ⟨rfl, rfl⟩ := e
  rw [c]; simp [List.getD, hj]
theorem contains_any (p : Option Addr) (L : List Int) (c : Nat) (x : Int) (w : World) (h : Ints w p L) (hl : L.length ≤ 1000000) :
    Calls Tryz.prog 28 #[.slice p L.length c, .int .i64 x] w fun r w' => r = .returned (.bool (L.contains x)) ∧ w' = w := by
  by_cases h0 : L.length = 0
  · have e1 : L = [] := List.eq_nil_of_length_eq_zero h0
    subst e1
    exact (Tryz.slices_Contains_int_empty p c x w).mono fun e w' ⟨he, hw⟩ => ⟨by rw [he]; rfl, hw⟩
  · obtain ⟨b, o, rfl, hc⟩ := ints_at h (by omega)
    refine (Tryz.slices_Contains_int b o L.length c L x w (Nat.le_refl _) (by omega) hc).mono fun e w' ⟨he, hw⟩ => ⟨?_, hw⟩
    rw [he, List.take_length]
theorem clone_any (p : Option Addr) (L : List Int) (c : Nat) (w : World) (h : Ints w p L) (hk : Kind1 p L.length c) (hl : L.length ≤ 1000000) :
    Calls Tryz.prog 51 #[.slice p L.length c] w fun r w' => (∃ v', r = .returned v' ∧ w'.ownsRow w.heap.size 3 1 v' L.length (L.map intV)) ∧ Below w.heap.size w w' := by
  rcases hk with ⟨rfl, h0, rfl⟩ | ⟨⟨b0, o0, rfl⟩, -, -⟩
  · have e1 : L = [] := List.eq_nil_of_length_eq_zero h0
    subst e1
    exact (Tryz.slices_Clone_int_nil 0 0 w).mono fun e w' ⟨he, hw⟩ => ⟨⟨_, he, World.ownsRow_nil _ _ _ _⟩, by rw [hw]; exact Below.refl _ _⟩
  · by_cases h0 : L.length = 0
    · have e1 : L = [] := List.eq_nil_of_length_eq_zero h0
      subst e1
      exact (Tryz.slices_Clone_int_zero ⟨b0, o0, none⟩ c w).mono fun e w' ⟨v', he, ho, _, hb⟩ => ⟨⟨_, he, ho⟩, hb⟩
    · obtain ⟨b, o, e, hc⟩ := ints_at h (by omega)
      simp only [Option.some.injEq, Addr.mk.injEq, and_true] at e
      obtain ⟨rfl, rfl⟩ := e
      refine (Tryz.slices_Clone_int b0 o0 L.length c L w (Nat.le_refl _) (by omega) hc).mono fun e w' ⟨v', he, ho, _, hb⟩ => ⟨⟨_, he, ?_⟩, hb⟩
      rw [List.take_length] at ho
      exact ho
theorem own_none (w : World) : Calls Tryz.prog 16 #[] w fun r w' => (∃ v, r = .returned v ∧ AttrK w' v ⟨[], 100, 0, 0, []⟩) ∧ Below w.heap.size w w' := by
  go_enter Tryz.func16, Tryz.ntmps16
  go_wp2_with fail
  refine bodyPost_ret (v := .agg #[.slice none 0 0, .int .i64 100, .int .i64 0, .int .i64 0, .slice none 0 0]) (by simp [results, Tryz.results16, go_sem]) rfl ⟨⟨_, rfl, none, 0, none, 0, rfl, ints_nil _ _, ints_nil _ _, .inl ⟨rfl, rfl, rfl⟩, .inl ⟨rfl, rfl, rfl⟩⟩, ?_⟩
  first | exact below_alloc _ _ | exact (((((below_alloc w _).setCell (Nat.le_refl _) _).setCell (Nat.le_refl _) _).setCell (Nat.le_refl _) _).setCell (Nat.le_refl _) _).setCell (Nat.le_refl _) _
set_option linter.unusedVariables false in
set_option maxRecDepth 100000 in
theorem through_any (v : Value) (A : At) (x : Int) (w : World) (h : IsAttr w v A) (h1 : A.path.length ≤ 1000000) :
    Calls Tryz.prog 29 #[v, .int .i64 x] w fun r w' => r = .returned (.bool (A.path.contains x)) ∧ Below w.heap.size w w' := by
  obtain ⟨p, cp, q, cq, rfl, i1, -⟩ := h
  obtain ⟨P, f, n, o, T⟩ := A
  simp only at *
  have HC : Hid (∀ w', Below w.heap.size w w' → Calls _ _ _ _ _) := fun w' hb => contains_any p P cp x w' (i1.below hb) h1
  obtain ⟨cb, hcb⟩ : ∃ b, Hid (P.contains x = b) := ⟨_, show _ = _ from rfl⟩
  rw [show P.contains x = cb from hcb.out] at HC ⊢
  clear i1
  go_enter Tryz.func29, Tryz.ntmps29
  go_wp2_with fail
  refine (HC.out _ (below_alloc _ _)).mono ?_
  rintro e w1 ⟨rfl, rfl⟩
  go_wp2_with fail
  go_ret
  exact ⟨rfl, below_alloc _ _⟩
end Go.Proofs.YtnifhaopjhgmnaaGreatDoor
