/-
  The document's LeadOf: a path led by a system.
  slices.Equal, slices.Contains and slices.Clone of whole numbers, in the words of these proofs; package attr's Same, Through and Own.
  Package attr's listText: what it returns.
-/
import Derived.Test.YtbfdgflbflajdaaGreatDoorGC
import Derived.Test.YtbfdgflbflajdaaGreatDoorGE
import Derived.Laws.MakeOwn
namespace Go.Proofs.YtbfdgflbflajdaaGreatDoor
open Go.RowKit

/-- the error's number of a lead (0: none). -/
def leadC (A : At) (x n : Int) : Int :=
  if 0 < (faultA A).1 then (faultA A).1
  else if x < 1 ∨ 1000 < x ∨ n < 0 ∨ 12 < n then 2
  else if 12 < (A.path.length : Int) + n then 7
  else 0
def leadA (A : At) (x n : Int) : At := { A with path := List.replicate n.toNat x ++ A.path }
def noneA : At := ⟨[], 0, 0, 0, []⟩
theorem attrK_none (w : World) : AttrK w (.agg #[.slice none 0 0, .int .i64 0, .int .i64 0, .int .i64 0, .slice none 0 0]) noneA :=
  ⟨none, 0, none, 0, rfl, ints_nil _ _, ints_nil _ _, .inl ⟨rfl, rfl, rfl⟩, .inl ⟨rfl, rfl, rfl⟩⟩

theorem AX.on' {w wr w' : World} {B S : Nat} {va vr : Array Value} (h : AX w wr B va vr) (hb : Below S wr w') (hS : B + 1 < S) : AX w w' B va vr := by
  obtain ⟨a, b, c⟩ := h
  exact ⟨by rw [hb.block B (by omega)]; exact a, by rw [hb.block (B + 1) hS]; exact b, c.trans (hb.mono (by omega))⟩
set_option linter.unusedVariables false in
set_option maxRecDepth 100000 in
set_option maxHeartbeats 4000000 in
theorem rLeadOf_bad (v : Value) (A : At) (x n : Int) (w : World) (h : AttrK w v A) (h1 : A.path.length ≤ 1000000) (h2 : A.tags.length ≤ 1000000) (hf : 0 < (faultA A).1) :
    Calls Tryz.prog 24 #[v, .int .i64 x, .int .i64 n] w fun r w' => (∃ v', r = .returned (.tuple #[v', .int .i64 (leadC A x n)]) ∧ AttrK w' v' noneA) ∧ Below w.heap.size w w' := by
  have e0 : leadC A x n = (faultA A).1 := by unfold leadC; rw [if_pos hf]
  rw [e0]
  obtain ⟨f0, hf0⟩ : ∃ x, Hid ((faultA A).1 = x) := ⟨_, show _ = _ from rfl⟩
  obtain ⟨f1, hf1⟩ : ∃ x, Hid ((faultA A).2 = x) := ⟨_, show _ = _ from rfl⟩
  have HF : Hid (faultA A = (f0, f1)) := by show _ = _; rw [← hf0.out, ← hf1.out]
  have hpos : 0 < f0 := by rw [← hf0.out]; exact hf
  rw [show (faultA A).1 = f0 from hf0.out]
  have HC : Hid (∀ w', Below w.heap.size w w' → Calls _ _ _ _ _) := fun w' hb => rAttrFault_any v A w' (h.attr.below hb) h1 h2 f0 f1 HF
  obtain ⟨p, cp, q, cq, rfl, -, -, -, -⟩ := h
  obtain ⟨P, f, m, o, T⟩ := A
  simp only at *
  clear hf HF hf0 hf1 e0
  have hfd := field_code f0 f1
  go_enter Tryz.func24, Tryz.ntmps24
  go_wp2_with fail
  refine (HC.out _ (below_two _ _ _)).mono ?_
  rintro e w1 ⟨rfl, hb1⟩
  have hx := (ax_start w _ _).on hb1
  obtain ⟨HB1⟩ : Nonempty (Hid (Below w.heap.size w w1)) := ⟨hx.2.2⟩
  obtain ⟨r0, r1, r2, r3, r4⟩ := hx.res
  have y0 := (hx.soft 0).2
  have y1 := (hx.soft 1).2
  have y2 := (hx.soft 2).2
  have y3 := (hx.soft 3).2
  have y4 := (hx.soft 4).2
  clear hb1 HC hx
  go_wp2_with fail
  refine bodyPost_ret (v := .tuple #[.agg #[.slice none 0 0, .int .i64 0, .int .i64 0, .int .i64 0, .slice none 0 0], .int .i64 f0]) (by simp [results, Tryz.results24, go_sem, r0, r1, r2, r3, r4]) rfl ⟨⟨_, rfl, attrK_none _⟩, ?_⟩
  exact ((((HB1.out.setCell (by simp) _).setCell (by simp) _).setCell (by simp) _).setCell (by simp) _).setCell (by simp) _

set_option linter.unusedVariables false in
set_option maxRecDepth 100000 in
set_option maxHeartbeats 4000000 in
theorem rLeadOf_bound (v : Value) (A : At) (x n : Int) (w : World) (h : AttrK w v A) (hA : RightA A) (hb : x < 1 ∨ 1000 < x ∨ n < 0 ∨ 12 < n) :
    Calls Tryz.prog 24 #[v, .int .i64 x, .int .i64 n] w fun r w' => (∃ v', r = .returned (.tuple #[v', .int .i64 (leadC A x n)]) ∧ AttrK w' v' noneA) ∧ Below w.heap.size w w' := by
  have e0 : (faultA A).1 = 0 := by rw [fault_of_right hA]
  have HC : Hid (∀ w', Below w.heap.size w w' → Calls _ _ _ _ _) := fun w' hb => rAttrFault_any v A w' (h.attr.below hb) (by have := hA.path; omega) (by have := hA.tags; omega) 0 (-1) (fault_of_right hA)
  have e1 : leadC A x n = 2 := by unfold leadC; rw [if_neg (by omega), if_pos hb]
  rw [e1]
  have g2 : decide (x < 1) = true ∨ (decide (x < 1) = false ∧ decide (1000 < x) = true) ∨ (decide (x < 1) = false ∧ decide (1000 < x) = false ∧ decide (n < 0) = true) ∨ (decide (x < 1) = false ∧ decide (1000 < x) = false ∧ decide (n < 0) = false ∧ decide (12 < n) = true) := by
    simp only [decide_eq_true_eq, decide_eq_false_iff_not]
    omega
  obtain ⟨p, cp, q, cq, rfl, -, -, -, -⟩ := h
  obtain ⟨P, f, m, o, T⟩ := A
  simp only at *
  clear hA e0 e1 hb
  have hfd := field_code 0 (-1)
  rcases g2 with g1 | ⟨g1, g2⟩ | ⟨g1, g2, g3⟩ | ⟨g1, g2, g3, g4⟩
  all_goals
    go_enter Tryz.func24, Tryz.ntmps24
    go_wp2_with fail
    refine (HC.out _ (below_two _ _ _)).mono ?_
    rintro e w1 ⟨rfl, hb1⟩
    have hx := (ax_start w _ _).on hb1
    obtain ⟨HB1⟩ : Nonempty (Hid (Below w.heap.size w w1)) := ⟨hx.2.2⟩
    obtain ⟨a0, a1, a2, a3, a4⟩ := hx.arg
    obtain ⟨r0, r1, r2, r3, r4⟩ := hx.res
    have y0 := (hx.soft 0).2
    have y1 := (hx.soft 1).2
    have y2 := (hx.soft 2).2
    have y3 := (hx.soft 3).2
    have y4 := (hx.soft 4).2
    clear hb1 HC hx
    go_wp2_with fail
    refine bodyPost_ret (v := .tuple #[.agg #[.slice none 0 0, .int .i64 0, .int .i64 0, .int .i64 0, .slice none 0 0], .int .i64 2]) (by simp [results, Tryz.results24, go_sem, r0, r1, r2, r3, r4]) rfl ⟨⟨_, rfl, attrK_none _⟩, ?_⟩
    exact ((((HB1.out.setCell (by simp) _).setCell (by simp) _).setCell (by simp) _).setCell (by simp) _).setCell (by simp) _

set_option linter.unusedVariables false in
set_option maxRecDepth 100000 in
set_option maxHeartbeats 4000000 in
theorem rLeadOf_full (v : Value) (A : At) (x n : Int) (w : World) (h : AttrK w v A) (hA : RightA A) (hb : ¬ (x < 1 ∨ 1000 < x ∨ n < 0 ∨ 12 < n)) (hn : 12 < (A.path.length : Int) + n) :
    Calls Tryz.prog 24 #[v, .int .i64 x, .int .i64 n] w fun r w' => (∃ v', r = .returned (.tuple #[v', .int .i64 (leadC A x n)]) ∧ AttrK w' v' noneA) ∧ Below w.heap.size w w' := by
  have e0 : (faultA A).1 = 0 := by rw [fault_of_right hA]
  have HC : Hid (∀ w', Below w.heap.size w w' → Calls _ _ _ _ _) := fun w' hb => rAttrFault_any v A w' (h.attr.below hb) (by have := hA.path; omega) (by have := hA.tags; omega) 0 (-1) (fault_of_right hA)
  have e1 : leadC A x n = 7 := by unfold leadC; rw [if_neg (by omega), if_neg hb, if_pos hn]
  rw [e1]
  have g1 : decide (x < 1) = false := decide_eq_false (by omega)
  have g2 : decide (1000 < x) = false := decide_eq_false (by omega)
  have g3 : decide (n < 0) = false := decide_eq_false (by omega)
  have g4 : decide (12 < n) = false := decide_eq_false (by omega)
  have hpl := hA.path
  have g5 : IntKind.i64.wrap ((A.path.length : Int) + n) = (A.path.length : Int) + n := wrapi _ (by omega)
  have g6 : decide (12 < (A.path.length : Int) + n) = true := decide_eq_true hn
  obtain ⟨p, cp, q, cq, rfl, -, -, -, -⟩ := h
  obtain ⟨P, f, m, o, T⟩ := A
  simp only at *
  clear hA e0 e1 hb
  have hfd := field_code 0 (-1)
  go_enter Tryz.func24, Tryz.ntmps24
  go_wp2_with fail
  refine (HC.out _ (below_two _ _ _)).mono ?_
  rintro e w1 ⟨rfl, hb1⟩
  have hx := (ax_start w _ _).on hb1
  obtain ⟨HB1⟩ : Nonempty (Hid (Below w.heap.size w w1)) := ⟨hx.2.2⟩
  obtain ⟨a0, a1, a2, a3, a4⟩ := hx.arg
  obtain ⟨r0, r1, r2, r3, r4⟩ := hx.res
  have y0 := (hx.soft 0).2
  have y1 := (hx.soft 1).2
  have y2 := (hx.soft 2).2
  have y3 := (hx.soft 3).2
  have y4 := (hx.soft 4).2
  clear hb1 HC hx
  go_wp2_with fail
  refine bodyPost_ret (v := .tuple #[.agg #[.slice none 0 0, .int .i64 0, .int .i64 0, .int .i64 0, .slice none 0 0], .int .i64 7]) (by simp [results, Tryz.results24, go_sem, r0, r1, r2, r3, r4]) rfl ⟨⟨_, rfl, attrK_none _⟩, ?_⟩
  exact ((((HB1.out.setCell (by simp) _).setCell (by simp) _).setCell (by simp) _).setCell (by simp) _).setCell (by simp) _

set_option linter.unusedVariables false in
set_option maxRecDepth 100000 in
set_option maxHeartbeats 4000000 in
theorem rLeadOf_right (v : Value) (A : At) (x n : Int) (w : World) (h : AttrK w v A) (hA : RightA A) (hb : ¬ (x < 1 ∨ 1000 < x ∨ n < 0 ∨ 12 < n)) (hn : ¬ 12 < (A.path.length : Int) + n) :
    Calls Tryz.prog 24 #[v, .int .i64 x, .int .i64 n] w fun r w' => (∃ v', r = .returned (.tuple #[v', .int .i64 (leadC A x n)]) ∧ AttrK w' v' (leadA A x n)) ∧ Below w.heap.size w w' := by
  have e0 : (faultA A).1 = 0 := by rw [fault_of_right hA]
  have HC : Hid (∀ w', Below w.heap.size w w' → Calls _ _ _ _ _) := fun w' hb => rAttrFault_any v A w' (h.attr.below hb) (by have := hA.path; omega) (by have := hA.tags; omega) 0 (-1) (fault_of_right hA)
  have e1 : leadC A x n = 0 := by unfold leadC; rw [if_neg (by omega), if_neg hb, if_neg hn]
  rw [e1]
  have g1 : decide (x < 1) = false := decide_eq_false (by omega)
  have g2 : decide (1000 < x) = false := decide_eq_false (by omega)
  have hpl := hA.path
  obtain ⟨N, rfl⟩ : ∃ N : Nat, n = (N : Int) := ⟨n.toNat, by omega⟩
  have g3 : decide ((N : Int) < 0) = false := decide_eq_false (by omega)
  have g4 : decide (12 < (N : Int)) = false := decide_eq_false (by omega)
  have hN : N ≤ 12 := by omega
  have g5 : IntKind.i64.wrap ((A.path.length : Int) + N) = (A.path.length : Int) + N := wrapi _ (by omega)
  have g6 : decide (12 < (A.path.length : Int) + N) = false := decide_eq_false hn
  obtain ⟨i0, hi, hz0, hz1, hz2⟩ := info_parts infoInt
  obtain ⟨p, cp, q, cq, rfl, i1, i2, k1, k2⟩ := h
  obtain ⟨P, f, m, o, T⟩ := A
  simp only at *
  obtain ⟨HK⟩ : Nonempty (Hid (Ints w p P ∧ Ints w q T ∧ Kind1 p P.length cp ∧ Kind1 q T.length cq)) := ⟨⟨i1, i2, k1, k2⟩⟩
  clear hA e0 e1 hb i1 i2 k1 k2 hn
  have hfd := field_code 0 (-1)
  go_enter Tryz.func24, Tryz.ntmps24
  go_wp2_with fail
  refine (HC.out _ (below_two _ _ _)).mono ?_
  rintro e w1 ⟨rfl, hb1⟩
  have hx := (ax_start w _ _).on hb1
  obtain ⟨H1⟩ : Nonempty (Hid (AX w w1 w.heap.size _ _)) := ⟨hx⟩
  obtain ⟨a0, a1, a2, a3, a4⟩ := hx.arg
  obtain ⟨B, hB⟩ : ∃ B, Hid (w.heap.size = B) := ⟨_, show _ = _ from rfl⟩
  rw [show w.heap.size = B from hB.out] at a0 a1 a2 a3 a4 H1 ⊢
  clear hb1 HC hx
  go_wp2_with fail
  obtain ⟨S, hS⟩ : ∃ S, Hid (w1.heap.size = S) := ⟨_, show _ = _ from rfl⟩
  obtain ⟨HLT⟩ : Nonempty (Hid (B + 1 < S)) := ⟨by rw [← show w1.heap.size = S from hS.out]; exact (Array.getElem?_eq_some_iff.1 H1.out.2.1).1⟩
  clear a0 a1 a2 a3 a4
  go_loopw [9, 10] (fun v i wr => ∃ (k : Nat) (done : List Int), i = .int .i64 k ∧ k ≤ N ∧ Hid (List.replicate k x = done) ∧ wr.ownsRow S 3 1 v done.length (done.map intV) ∧ Below S w1 wr) (fun _ i _ => N - (intOf i).toNat)
  case atStart => exact ⟨0, [], rfl, Nat.zero_le _, rfl, World.ownsRow_nil _ _ _ _, Below.refl _ _⟩
  case round =>
    obtain ⟨k, done, rfl, hkN, HD, hown, hnx⟩ := hrel
    have hSw : S ≤ wr.heap.size := by rw [← show w1.heap.size = S from hS.out]; exact hnx.size
    have hdl : done.length = k := by rw [← HD.out]; simp
    by_cases hlt : k < N
    · obtain ⟨HN⟩ : Nonempty (Hid (List.replicate (k + 1) x = done ++ [x])) := ⟨by show _ = _; rw [List.replicate_succ', HD.out]⟩
      go_wp2_with (at_builtin; refine wpList_append_own _ rfl _ _ 22 rfl S 3 i0 (.int .i64 0) 1 8 Tryz.underlying22 hi hz0 hz1 hz2 rfl (by decide) _ _ _ rfl (hown.alloc _) ⟨wr.heap.size, 0, none⟩ 1 1 [intV x] rfl rfl ?c1 ?c2 ?c3 ?c4 ?c5 ?_)
      case c1 =>
        intro j u hj
        match j, hj with
        | 0, hj => simp at hj; subst hj; simp [Addr.add, intV]
      case c2 => intro u hu; simp at hu; subst hu; rfl
      case c3 => unfold maxLen; omega
      case c4 => omega
      case c5 => simp; omega
      intro v' w2 hown' hgrow _
      have R := rel_int (x := x) hSw hown hnx (by rw [hdl]; exact hown') hgrow
      clear hown' hgrow hown hnx
      go_wp2_with fail
      go_roundw
      case rel => exact ⟨k + 1, done ++ [x], by go_num, by omega, HN, R.1, R.2⟩
      case measure => simp [intOf]; omega
    · obtain rfl : k = N := by omega
      have hx := H1.out.on' hnx HLT.out
      obtain ⟨HX⟩ : Nonempty (Hid (AX w wr B _ _)) := ⟨hx⟩
      obtain ⟨a0, a1, a2, a3, a4⟩ := hx.arg
      obtain ⟨HB0⟩ : Nonempty (Hid (Below w.heap.size w wr)) := ⟨by rw [show w.heap.size = B from hB.out]; exact hx.2.2⟩
      obtain ⟨O', hO'⟩ : ∃ O', Hid (done ++ P = O') := ⟨_, show _ = _ from rfl⟩
      clear hnx hx
      go_wp2_with (at_builtin; refine wp_addAll1 rfl _ _ 22 rfl S 3 i0 Tryz.underlying22 hi hz0 hz1 hz2 _ done rfl hown p P _ cp rfl rfl HK.out.2.2.1 (HK.out.1.below HB0.out) O' hO' (by omega) hSw ?_)
      intro v1 w2 ho1 hb1
      obtain ⟨p1, cp1, rfl, k1, hi1, hf1⟩ := own_kind' ho1
      have hx := HX.out.on' hb1 HLT.out
      obtain ⟨H2⟩ : Nonempty (Hid (AX w w2 B _ _ ∧ Ints w2 p1 O' ∧ Kind1 p1 O'.length cp1 ∧ (∀ b o, p1 = some ⟨b, o, none⟩ → B + 1 < b))) := ⟨⟨hx, hi1, k1, fun b o e => by have := hf1 b o e; have := HLT.out; omega⟩⟩
      clear a0 a1 a2 a3 a4
      obtain ⟨a0, a1, a2, a3, a4⟩ := hx.arg
      obtain ⟨r0, r1, r2, r3, r4⟩ := hx.res
      have z0 := (hx.soft 0).1
      have y0 := (hx.soft 0).2
      have y1 := (hx.soft 1).2
      have y2 := (hx.soft 2).2
      have y3 := (hx.soft 3).2
      have y4 := (hx.soft 4).2
      clear ho1 hb1 k1 hi1 hf1 hx HX hown
      go_wp2_with fail
      obtain ⟨HX, j1, k1, n1⟩ := H2.out
      have n1' : ∀ b o, p1 = some ⟨b, o, none⟩ → B < b := fun b o e => by have := n1 b o e; omega
      have eA : leadA ⟨P, f, m, o, T⟩ x (k : Int) = ⟨O', f, m, o, T⟩ := by
        unfold leadA
        simp only [Int.toNat_natCast]
        rw [HD.out, hO'.out]
      rw [eA]
      have hbE := (((((HX.2.2.setCell (p := ⟨B, 0, none⟩) (by simp) (.slice p1 O'.length cp1)).setCell (p := ⟨B + 1, 0, none⟩) (by simp) (.slice p1 O'.length cp1)).setCell (p := ⟨B + 1, 1, none⟩) (by simp) (.int .i64 f)).setCell (p := ⟨B + 1, 2, none⟩) (by simp) (.int .i64 m)).setCell (p := ⟨B + 1, 3, none⟩) (by simp) (.int .i64 o)).setCell (p := ⟨B + 1, 4, none⟩) (by simp) (.slice q T.length cq)
      refine bodyPost_ret (v := .tuple #[.agg #[.slice p1 O'.length cp1, .int .i64 f, .int .i64 m, .int .i64 o, .slice q T.length cq], .int .i64 0]) (by simp [results, Tryz.results24, go_sem, r0, r1, r2, r3, r4]) rfl ⟨⟨_, rfl, p1, cp1, q, cq, rfl, ?_, ?_, k1, HK.out.2.2.2⟩, ?_⟩
      · exact (((((j1.set n1' _ _).set n1 _ _).set n1 _ _).set n1 _ _).set n1 _ _).set n1 _ _
      · exact HK.out.2.1.below (by rw [show w.heap.size = B from hB.out]; exact hbE)
      · first | exact hbE | (rw [show w.heap.size = B from hB.out]; exact hbE)
end Go.Proofs.YtbfdgflbflajdaaGreatDoor

namespace Go.Proofs.YtbfdgflbflajdaaGreatDoor
open Go.RowKit
open scoped Classical

theorem ints_at {w : World} {p : Option Addr} {L : List Int} (h : Ints w p L) (h0 : 0 < L.length) : ∃ b o, p = some ⟨b, o, none⟩ ∧ ∀ j, j < L.length → w.cell? ⟨b, o + j, none⟩ = some (.int .i64 (L.getD j 0)) := by
  obtain ⟨b, o, rfl, -⟩ := h 0 h0
  refine ⟨b, o, rfl, fun j hj => ?_⟩
  obtain ⟨b', o', e, c⟩ := h j hj
  simp only [Option.some.injEq, Addr.mk.injEq, and_true] at e
  obtain ⟨rfl, rfl⟩ := e
  rw [c]; simp [List.getD, hj]
theorem equal_any (p q : Option Addr) (L M : List Int) (c d : Nat) (w : World) (h : Ints w p L) (h' : Ints w q M) (hl : L.length ≤ 1000000) (hm : M.length ≤ 1000000) :
    Calls Tryz.prog 43 #[.slice p L.length c, .slice q M.length d] w fun r w' => r = .returned (.bool (decide (L = M))) ∧ Below w.heap.size w w' := by
  by_cases hn : L.length = M.length
  · by_cases h0 : L.length = 0
    · have e1 : L = [] := List.eq_nil_of_length_eq_zero h0
      have e2 : M = [] := List.eq_nil_of_length_eq_zero (by omega)
      subst e1 e2
      exact (Tryz.slices_Equal_int_empty p q c 0 d w (by omega)).mono fun e w' ⟨he, hw⟩ => ⟨by rw [he]; simp, by rw [hw]; exact Below.refl _ _⟩
    · obtain ⟨b, o, rfl, hc⟩ := ints_at h (by omega)
      obtain ⟨b', o', rfl, hc'⟩ := ints_at h' (by omega)
      refine (Tryz.slices_Equal_int b o L.length c b' o' M.length d L M w (Nat.le_refl _) (Nat.le_refl _) (by omega) (by omega) hc hc').mono fun e w' ⟨he, q, hw⟩ => ⟨?_, by rw [hw]; exact below_drewN (Below.refl _ _) _⟩
      rw [he, List.take_length, List.take_length]
      congr 2
      by_cases e : L = M <;> simp [e]
  · refine (Tryz.slices_Equal_int_lens p q L.length c M.length d w hn).mono fun e w' ⟨he, hw⟩ => ⟨?_, by rw [hw]; exact Below.refl _ _⟩
    rw [he, decide_eq_false (fun e => hn (by rw [e]))]
theorem contains_any (p : Option Addr) (L : List Int) (c : Nat) (x : Int) (w : World) (h : Ints w p L) (hl : L.length ≤ 1000000) :
    Calls Tryz.prog 48 #[.slice p L.length c, .int .i64 x] w fun r w' => r = .returned (.bool (L.contains x)) ∧ w' = w := by
  by_cases h0 : L.length = 0
  · have e1 : L = [] := List.eq_nil_of_length_eq_zero h0
    subst e1
    exact (Tryz.slices_Contains_int_empty p c x w).mono fun e w' ⟨he, hw⟩ => ⟨by rw [he]; rfl, hw⟩
  · obtain ⟨b, o, rfl, hc⟩ := ints_at h (by omega)
    refine (Tryz.slices_Contains_int b o L.length c L x w (Nat.le_refl _) (by omega) hc).mono fun e w' ⟨he, hw⟩ => ⟨?_, hw⟩
    rw [he, List.take_length]
theorem clone_any (p : Option Addr) (L : List Int) (c : Nat) (w : World) (h : Ints w p L) (hk : Kind1 p L.length c) (hl : L.length ≤ 1000000) :
    Calls Tryz.prog 112 #[.slice p L.length c] w fun r w' => (∃ v', r = .returned v' ∧ w'.ownsRow w.heap.size 3 1 v' L.length (L.map intV)) ∧ Below w.heap.size w w' := by
  rcases hk with ⟨rfl, h0, rfl⟩ | ⟨⟨b0, o0, rfl⟩, -, -⟩
  · have e1 : L = [] := List.eq_nil_of_length_eq_zero h0
    subst e1
    exact (Tryz.slices_Clone_int_nil 0 0 w).mono fun e w' ⟨he, hw⟩ => ⟨⟨_, he, World.ownsRow_nil _ _ _ _⟩, by rw [hw]; exact Below.refl _ _⟩
  · by_cases h0 : L.length = 0
    · have e1 : L = [] := List.eq_nil_of_length_eq_zero h0
      subst e1
      exact (Tryz.slices_Clone_int_zero ⟨b0, o0, none⟩ c w).mono fun e w' ⟨v', he, ho, _, hb⟩ => ⟨⟨_, he, ho⟩, hb⟩
    · obtain ⟨b, o, e, hc⟩ := ints_at h (by omega)
      simp only [Option.some.injEq, Addr.mk.injEq, and_true] at e
      obtain ⟨rfl, rfl⟩ := e
      refine (Tryz.slices_Clone_int b0 o0 L.length c L w (Nat.le_refl _) (by omega) hc).mono fun e w' ⟨v', he, ho, _, hb⟩ => ⟨⟨_, he, ?_⟩, hb⟩
      rw [List.take_length] at ho
      exact ho
theorem own_none (w : World) : Calls Tryz.prog 26 #[] w fun r w' => (∃ v, r = .returned v ∧ AttrK w' v ⟨[], 100, 0, 0, []⟩) ∧ Below w.heap.size w w' := by
  go_enter Tryz.func26, Tryz.ntmps26
  go_wp2_with fail
  refine bodyPost_ret (v := .agg #[.slice none 0 0, .int .i64 100, .int .i64 0, .int .i64 0, .slice none 0 0]) (by simp [results, Tryz.results26, go_sem]) rfl ⟨⟨_, rfl, none, 0, none, 0, rfl, ints_nil _ _, ints_nil _ _, .inl ⟨rfl, rfl, rfl⟩, .inl ⟨rfl, rfl, rfl⟩⟩, ?_⟩
  first | exact below_alloc _ _ | exact (((((below_alloc w _).setCell (Nat.le_refl _) _).setCell (Nat.le_refl _) _).setCell (Nat.le_refl _) _).setCell (Nat.le_refl _) _).setCell (Nat.le_refl _) _
set_option linter.unusedVariables false in
set_option maxRecDepth 100000 in
theorem through_any (v : Value) (A : At) (x : Int) (w : World) (h : IsAttr w v A) (h1 : A.path.length ≤ 1000000) :
    Calls Tryz.prog 13 #[v, .int .i64 x] w fun r w' => r = .returned (.bool (A.path.contains x)) ∧ Below w.heap.size w w' := by
  obtain ⟨p, cp, q, cq, rfl, i1, -⟩ := h
  obtain ⟨P, f, n, o, T⟩ := A
  simp only at *
  have HC : Hid (∀ w', Below w.heap.size w w' → Calls _ _ _ _ _) := fun w' hb => contains_any p P cp x w' (i1.below hb) h1
  obtain ⟨cb, hcb⟩ : ∃ b, Hid (P.contains x = b) := ⟨_, show _ = _ from rfl⟩
  rw [show P.contains x = cb from hcb.out] at HC ⊢
  clear i1
  go_enter Tryz.func13, Tryz.ntmps13
  go_wp2_with fail
  refine (HC.out _ (below_alloc _ _)).mono ?_
  rintro e w1 ⟨rfl, rfl⟩
  go_wp2_with fail
  go_ret
  exact ⟨rfl, below_alloc _ _⟩
set_option linter.unusedVariables false in
set_option maxRecDepth 100000 in
set_option maxHeartbeats 4000000 in
theorem same_any (v v' : Value) (A A' : At) (w : World) (h : IsAttr w v A) (h' : IsAttr w v' A') (h1 : A.path.length ≤ 1000000) (h2 : A.tags.length ≤ 1000000) (h3 : A'.path.length ≤ 1000000) (h4 : A'.tags.length ≤ 1000000) :
    Calls Tryz.prog 11 #[v, v'] w fun r w' => r = .returned (.bool (decide (A = A'))) ∧ Below w.heap.size w w' := by
  obtain ⟨p, cp, q, cq, rfl, i1, i2⟩ := h
  obtain ⟨p', cp', q', cq', rfl, i3, i4⟩ := h'
  obtain ⟨P, f, n, o, T⟩ := A
  obtain ⟨P', f', n', o', T'⟩ := A'
  simp only at *
  have HC : Hid (∀ w', Below w.heap.size w w' → Calls _ _ _ _ _) := fun w' hb => equal_any p p' P P' cp cp' w' (i1.below hb) (i3.below hb) h1 h3
  have HT : Hid (∀ w', Below w.heap.size w w' → Calls _ _ _ _ _) := fun w' hb => equal_any q q' T T' cq cq' w' (i2.below hb) (i4.below hb) h2 h4
  obtain ⟨cb, hcb⟩ : ∃ b, Hid (decide ((⟨P, f, n, o, T⟩ : At) = ⟨P', f', n', o', T'⟩) = b) := ⟨_, show _ = _ from rfl⟩
  rw [show decide ((⟨P, f, n, o, T⟩ : At) = ⟨P', f', n', o', T'⟩) = cb from hcb.out]
  obtain ⟨HQ⟩ : Nonempty (Hid (cb = (decide (f = f') && decide (n = n') && decide (o = o') && decide (P = P') && decide (T = T')))) := ⟨by
    rw [← hcb.out]
    simp only [At.mk.injEq, ← Bool.decide_and, decide_eq_decide]
    constructor
    · rintro ⟨a, b, c, d, e⟩; exact ⟨⟨⟨⟨b, c⟩, d⟩, a⟩, e⟩
    · rintro ⟨⟨⟨⟨b, c⟩, d⟩, a⟩, e⟩; exact ⟨a, b, c, d, e⟩⟩
  clear i1 i2 i3 i4 h1 h2 h3 h4 hcb
  by_cases e1 : f = f'
  · have e1' : (f == f') = true := by simp [e1]
    by_cases e2 : n = n'
    · have e2' : (n == n') = true := by simp [e2]
      by_cases e3 : o = o'
      · have e3' : (o == o') = true := by simp [e3]
        by_cases e4 : P = P'
        · obtain ⟨HP⟩ : Nonempty (Hid (decide (P = P') = true)) := ⟨decide_eq_true e4⟩
          rw [show decide (P = P') = true from HP.out] at HC
          obtain rfl : decide (T = T') = cb := by rw [HQ.out]; simp [e1, e2, e3, e4]
          obtain ⟨tb, htb⟩ : ∃ b, Hid (decide (T = T') = b) := ⟨_, show _ = _ from rfl⟩
          rw [show decide (T = T') = tb from htb.out] at HT ⊢
          clear e1 e2 e3 e4 HQ
          go_enter Tryz.func11, Tryz.ntmps11
          go_wp2_with fail
          refine (HC.out _ (below_two _ _ _)).mono ?_
          rintro e w1 ⟨rfl, hb1⟩
          have d1 := cell_kept hb1 (att_at _ _ _ _ _ _ _ _)
          have d2 := cell_kept hb1 (att_at2 _ _ _ _ _ _ _ _)
          replace hb1 := (below_two _ _ _).trans (hb1.mono (below_two _ _ _).size)
          go_wp2_with fail
          refine (HT.out _ hb1).mono ?_
          rintro e w2 ⟨rfl, hb2⟩
          go_wp2_with fail
          go_ret
          exact ⟨rfl, hb1.trans (hb2.mono hb1.size)⟩
        · obtain ⟨HP⟩ : Nonempty (Hid (decide (P = P') = false)) := ⟨decide_eq_false e4⟩
          rw [show decide (P = P') = false from HP.out] at HC
          obtain rfl : false = cb := by rw [HQ.out]; simp [e4]
          clear e1 e2 e3 e4 HQ
          go_enter Tryz.func11, Tryz.ntmps11
          go_wp2_with fail
          refine (HC.out _ (below_two _ _ _)).mono ?_
          rintro e w1 ⟨rfl, hb1⟩
          replace hb1 := (below_two _ _ _).trans (hb1.mono (below_two _ _ _).size)
          go_wp2_with fail
          go_ret
          exact ⟨rfl, hb1⟩
      · have e3' : (o == o') = false := by simp [e3]
        obtain rfl : false = cb := by rw [HQ.out]; simp [e3]
        clear e1 e2 e3 HQ HC HT
        go_enter Tryz.func11, Tryz.ntmps11
        go_wp2_with fail
        go_ret
        exact ⟨rfl, below_two _ _ _⟩
    · have e2' : (n == n') = false := by simp [e2]
      obtain rfl : false = cb := by rw [HQ.out]; simp [e2]
      clear e1 e2 HQ HC HT
      go_enter Tryz.func11, Tryz.ntmps11
      go_wp2_with fail
      go_ret
      exact ⟨rfl, below_two _ _ _⟩
  · have e1' : (f == f') = false := by simp [e1]
    obtain rfl : false = cb := by rw [HQ.out]; simp [e1]
    clear e1 HQ HC HT
    go_enter Tryz.func11, Tryz.ntmps11
    go_wp2_with fail
    go_ret
    exact ⟨rfl, below_two _ _ _⟩
end Go.Proofs.YtbfdgflbflajdaaGreatDoor

namespace Go.Proofs.YtbfdgflbflajdaaGreatDoor
open Go.RowKit

theorem aBelow_grow (w : World) (k : Nat) (os : Array Obj) : Below w.heap.size w (Sort.grow (w.drewN k) os) := by
  refine ⟨rfl, rfl, rfl, ?_, fun i hi => ?_⟩
  · show w.heap.size ≤ (w.heap ++ os).size
    simp
  · show (w.heap ++ os)[i]? = _
    rw [Array.getElem?_append_left hi]
theorem aItoa_any (n : Int) (l : List UInt8) (hl : Hid (Lib.itoa n = l)) (E : Nat → Addr) (m : Int) (w : World) (h : AttrEnv w E m) (h0 : -9223372036854775807 ≤ n) (h1 : n ≤ 9223372036854775807) :
    Calls Tryz.prog 39 #[.int .i64 n] w fun e w' => e = .returned (.string ⟨l.toArray⟩) ∧ Below w.heap.size w w' := by
  rw [← hl.out]
  refine (Tryz.strconv_Itoa n (by omega) (by omega) w h.tab).mono ?_
  rintro e w' ⟨rfl, k, os, rfl⟩
  exact ⟨rfl, aBelow_grow w k os⟩
theorem join_joinN (c : UInt8) (L : List Int) (h : 0 < L.length) : Lib.join (L.map Lib.itoa) [c] = joinN c L := by
  cases L with
  | nil => simp at h
  | cons x r =>
    rw [List.map_cons, Lib.join_cons]
    simp only [joinN]
    congr 1
    rw [List.flatMap_def, Lib.joinTail, List.map_map]
    rfl
/-- a row of texts that is being written: the first k are done. -/
def Row (w wr : World) (B n k : Nat) (L : List Int) : Prop :=
  ∃ cur : Array Value, wr.heap[B]? = some (.cells cur 9 (0, 0)) ∧ cur.size = n ∧ (∀ j (h : j < L.length), j < k → cur[j]? = some (strV (Lib.itoa L[j]))) ∧ Below B w wr
theorem Row.on {w wr w' : World} {B n k : Nat} {L : List Int} (h : Row w wr B n k L) (hb : Below wr.heap.size wr w') : Row w w' B n k L := by
  obtain ⟨cur, a, b, c, d⟩ := h
  have l1 := (Array.getElem?_eq_some_iff.1 a).1
  exact ⟨cur, by rw [hb.block B l1]; exact a, b, c, d.trans (hb.mono (Nat.le_of_lt l1))⟩
theorem Row.soft {w wr : World} {B n k : Nat} {L : List Int} (h : Row w wr B n k L) (j : Nat) (hj : j < n) : wr.frozen? ⟨B, j, none⟩ = false ∧ ∃ u, wr.cell? ⟨B, j, none⟩ = some u := by
  obtain ⟨cur, a, b, c, d⟩ := h
  constructor
  · simp [World.frozen?, a]
  · exact ⟨cur[j], by simp [World.cell?, a, b, hj]⟩
theorem Row.set {w wr : World} {B n k : Nat} {L : List Int} (h : Row w wr B n k L) (hk : k < n) (hn : n = L.length) (u : Value) (hu : ∀ h : k < L.length, u = strV (Lib.itoa L[k])) : Row w (wr.setCell ⟨B, k, none⟩ u) B n (k + 1) L := by
  obtain ⟨cur, a, b, c, d⟩ := h
  refine ⟨cur.setIfInBounds k u, heap_setCell_same wr B k cur _ u a, by simp [b], fun j hj hjk => ?_, d.setCell (Nat.le_refl _) _⟩
  by_cases e : j = k
  · subst e
    rw [Array.getElem?_setIfInBounds_self_of_lt (by omega), hu hj]
  · rw [Array.getElem?_setIfInBounds_ne (by omega)]
    exact c j hj (by omega)

set_option linter.unusedVariables false in
set_option maxRecDepth 100000 in
set_option maxHeartbeats 4000000 in
theorem listText_any (p : Option Addr) (L : List Int) (c : UInt8) (cap : Nat) (E : Nat → Addr) (m : Int) (w : World) (hE : AttrEnv w E m) (h : Ints w p L) (hl : L.length ≤ 1000) (hr : ∀ x ∈ L, -9223372036854775807 ≤ x ∧ x ≤ 9223372036854775807) :
    Calls Tryz.prog 38 #[.slice p L.length cap, .string ⟨#[c]⟩] w fun r w' => r = .returned (.string ⟨(joinN c L).toArray⟩) ∧ Below w.heap.size w w' := by
  by_cases h0 : L.length = 0
  · have e1 : L = [] := List.eq_nil_of_length_eq_zero h0
    subst e1
    clear hE h hr
    go_enter Tryz.func38, Tryz.ntmps38
    go_wp2_with fail
    go_ret
    exact ⟨rfl, Below.refl _ _⟩
  · have q0 : ((L.length : Int) == 0) = false := by rw [beq_eq_false_iff_ne]; omega
    obtain ⟨HE⟩ : Nonempty (Hid (AttrEnv w E m ∧ Ints w p L ∧ (∀ x ∈ L, -9223372036854775807 ≤ x ∧ x ≤ 9223372036854775807))) := ⟨⟨hE, h, hr⟩⟩
    obtain ⟨B, hB⟩ : ∃ b, Hid (w.heap.size = b) := ⟨_, show _ = _ from rfl⟩
    rw [show w.heap.size = B from hB.out]
    clear hE h hr
    obtain ⟨i0, hi, hz0, hz1, hz2⟩ := info_parts infoS
    have hmk := run_make (P := Tryz.prog) w 74 9 i0 (.string ⟨#[]⟩) Tryz.underlying74 hi hz0 .i64 .i64 (L.length : Int) (L.length : Int) (by omega) (Int.le_refl _) (by rw [hz2]; omega) (by omega)
    obtain ⟨MC, hMC⟩ : ∃ a : Array Value, Hid (madeCells (Value.string ⟨#[]⟩).cells (L.length * i0.size) = a) := ⟨_, show _ = _ from rfl⟩
    simp only [Int.toNat_natCast] at hmk
    rw [show madeCells (Value.string ⟨#[]⟩).cells (L.length * i0.size) = MC from hMC.out] at hmk
    have hsz : MC.size = L.length := by rw [← hMC.out, size_madeCells, hz1, Nat.mul_one]
    obtain ⟨W1, hW1⟩ : ∃ W1, Hid (w.alloc (.cells MC 9) = W1) := ⟨_, show _ = _ from rfl⟩
    rw [show w.alloc (.cells MC 9) = W1 from hW1.out, show w.heap.size = B from hB.out] at hmk
    obtain ⟨HR⟩ : Nonempty (Hid (Row w W1 B L.length 0 L)) := ⟨by
      rw [← hW1.out, ← hB.out]
      exact ⟨MC, Go.heap_alloc_new w _, hsz, fun j _ h => by omega, below_alloc _ _⟩⟩
    obtain ⟨l9, hl9⟩ : ∃ l, Hid (joinN c L = l) := ⟨_, show _ = _ from rfl⟩
    rw [show joinN c L = l9 from hl9.out]
    clear hsz hi hz0 hz1 hz2
    go_enter Tryz.func38, Tryz.ntmps38
    go_wp2_with fail
    clear hmk
    go_loopw [16] (fun i wr => ∃ (k : Nat), i = .int .i64 k ∧ k ≤ L.length ∧ Hid (Row w wr B L.length k L)) (fun i _ => L.length - (intOf i).toNat)
    case atStart => exact ⟨0, rfl, Nat.zero_le _, HR⟩
    case round =>
      obtain ⟨k, rfl, hk, HK⟩ := hrel
      have hbw : Below w.heap.size w wr := by obtain ⟨_, _, _, _, d⟩ := HK.out; rw [show w.heap.size = B from hB.out]; exact d
      by_cases hlt : k < L.length
      · have q3 : (k : Int) < L.length := by omega
        obtain ⟨b, o, rfl, x0⟩ := HE.out.2.1 k hlt
        have d0 := cell_kept hbw x0
        obtain ⟨x, hx⟩ : ∃ x, Hid (L[k] = x) := ⟨_, show _ = _ from rfl⟩
        rw [show L[k] = x from hx.out] at d0
        obtain ⟨l, hlx⟩ : ∃ l, Hid (Lib.itoa x = l) := ⟨_, show _ = _ from rfl⟩
        have hrx := HE.out.2.2 L[k] (List.getElem_mem hlt)
        rw [show L[k] = x from hx.out] at hrx
        obtain ⟨HC⟩ : Nonempty (Hid (Calls _ _ _ _ _)) := ⟨aItoa_any x l hlx E m wr (HE.out.1.below hbw) hrx.1 hrx.2⟩
        clear hrx x0 hbw
        go_wp2_with fail
        refine HC.out.mono ?_
        rintro e w1 ⟨rfl, hb1⟩
        obtain ⟨HK1⟩ : Nonempty (Hid (Row w w1 B L.length k L)) := ⟨HK.out.on hb1⟩
        obtain ⟨s0, u, s1⟩ := HK1.out.soft k hlt
        obtain ⟨HN⟩ : Nonempty (Hid (Row w (w1.setCell ⟨B, k, none⟩ (.string ⟨l.toArray⟩)) B L.length (k + 1) L)) := ⟨HK1.out.set hlt rfl _ (fun _ => by unfold strV; rw [hx.out, hlx.out])⟩
        clear hb1 d0 HC
        go_wp2_with fail
        go_roundw
        case rel => exact ⟨k + 1, by go_num, by omega, HN⟩
        case measure => simp [intOf]; omega
      · obtain rfl : k = L.length := by omega
        obtain ⟨HJ⟩ : Nonempty (Hid (Calls Tryz.prog 37 #[.slice (some ⟨B, 0, none⟩) L.length L.length, .string ⟨#[c]⟩] wr fun e w' => e = .returned (.string ⟨(joinN c L).toArray⟩) ∧ Below wr.heap.size wr w')) := ⟨by
          obtain ⟨cur, a, b, cc, d⟩ := HK.out
          have hj := join_joinN c L (by omega)
          have hlen := joinN_len c L HE.out.2.2
          have := Tryz.strings_Join B 0 L.length (L.map (fun x => (⟨(Lib.itoa x).toArray⟩ : ByteArray))) ⟨#[c]⟩ wr (fun j x hjx => by
            have hjl : j < L.length := by
              have := (List.getElem?_eq_some_iff.1 hjx).1
              simpa using this
            rw [Nat.zero_add]
            have e := cc j hjl hjl
            simp [hjl] at hjx
            rw [← hjx]
            simp [World.cell?, a, e, strV]) (Array.getElem?_eq_some_iff.1 a).1 (by simp; omega) (by simp) (by
            rw [List.map_map, show (List.map ((fun x => x.data.toList) ∘ fun x => (⟨(Lib.itoa x).toArray⟩ : ByteArray)) L) = L.map Lib.itoa from by simp [Function.comp_def]]
            show (Lib.join (L.map Lib.itoa) [c]).length ≤ _
            rw [hj]; omega)
          rw [List.map_map, List.length_map, show (List.map ((fun x => x.data.toList) ∘ fun x => (⟨(Lib.itoa x).toArray⟩ : ByteArray)) L) = L.map Lib.itoa from by simp [Function.comp_def]] at this
          rw [← hj]
          exact this⟩
        rw [show joinN c L = l9 from hl9.out] at HJ
        obtain ⟨HBW⟩ : Nonempty (Hid (Below B w wr ∧ B ≤ wr.heap.size)) := ⟨by obtain ⟨_, _, _, _, d⟩ := HK.out; exact ⟨d, by rw [← show w.heap.size = B from hB.out]; exact hbw.size⟩⟩
        clear hbw
        go_wp2_with fail
        refine HJ.out.mono ?_
        rintro e w1 ⟨rfl, hb1⟩
        obtain ⟨HB1⟩ : Nonempty (Hid (Below B w w1)) := ⟨HBW.out.1.trans (hb1.mono HBW.out.2)⟩
        clear hb1
        go_wp2_with fail
        go_ret
        exact ⟨rfl, HB1.out⟩
end Go.Proofs.YtbfdgflbflajdaaGreatDoor
