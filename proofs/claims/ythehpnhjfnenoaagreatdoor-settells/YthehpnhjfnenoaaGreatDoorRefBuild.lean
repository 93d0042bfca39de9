/-
  The document's answer, chapter 2 (herepathref1): build: a set by halves of halves.
-/
import Derived.Test.YthehpnhjfnenoaaGreatDoorRefSet2
import Derived.Deep.Cut
import Derived.Deep.CutRange
namespace Go.Proofs.YthehpnhjfnenoaaGreatDoor
open Go.RowKit

/-- what inside hands back, as a list. -/
def insL (l : List (Int × Int)) (P : Int × Int) : List (Int × Int) := if coverL l P = true then [] else insideL l P
theorem insL_length (l : List (Int × Int)) (P : Int × Int) : (insL l P).length ≤ l.length := by
  unfold insL
  split
  · simp
  · exact inside_length l P
/-- one of the lists of the halves. -/
structure Down (P : Int × Int) (A A' : List (Int × Int)) : Prop where
  right : Rights A'
  same : ∀ x, P.1 ≤ x → x < P.1 + pw P.2 → inPB A' x = inPB A x
theorem down_cover {P : Int × Int} {A : List (Int × Int)} (hA : Rights A) (hP : rt P.1 P.2 = true) (h : coverL A P = true) : Down P A [P] :=
  ⟨fun p hp => by simp at hp; subst hp; exact hP, fun x h1 h2 => by rw [cover_has hA hP h x h1 h2, inPB_iff]; exact ⟨P, by simp, h1, h2⟩⟩
theorem down_inside {P : Int × Int} {A : List (Int × Int)} (hA : Rights A) (hP : rt P.1 P.2 = true) (h : coverL A P = false) : Down P A (insL A P) := by
  have e : insL A P = insideL A P := by unfold insL; rw [h]; simp
  rw [e]
  exact ⟨inside_right P hA, fun x h1 h2 => (inside_has hA hP h x h1 h2).symm⟩
/-- within P all are alike. -/
theorem flat_in {P : Int × Int} {A : List (Int × Int)} (hA : Rights A) (hP : rt P.1 P.2 = true) (h : coverL A P = true ∨ insL A P = []) (x : Int) (h1 : P.1 ≤ x) (h2 : x < P.1 + pw P.2) : inPB A x = coverL A P := by
  cases hc : coverL A P with
  | true => exact cover_has hA hP hc x h1 h2
  | false =>
    have e : insL A P = insideL A P := by unfold insL; rw [hc]; simp
    rw [hc, e] at h
    rcases h with h | h
    · simp at h
    · rw [inside_has hA hP hc x h1 h2, h]; rfl
theorem ins_32 {P : Int × Int} {A : List (Int × Int)} (hA : Rights A) (hP : P.2 = 32) : insL A P = [] := by
  unfold insL
  split
  · rfl
  · rename_i h; exact inside_32 hA hP (by simpa using h)
theorem Built.shift {P Q : Int × Int} {A B A' B' : List (Int × Int)} {k : Int} {L : List (Int × Int)} {all : Bool} (h : Built Q (wantG A' B' k) L all) (ha : Down P A A') (hb : Down P B B') (h1 : P.1 ≤ Q.1) (h2 : Q.1 + pw Q.2 ≤ P.1 + pw P.2) : Built Q (wantG A B k) L all :=
  h.congr fun x x1 x2 => by unfold wantG; rw [ha.same x (by omega) (by omega), hb.same x (by omega) (by omega)]
theorem inside_get {w' : World} {B : Nat} {l : List (Int × Int)} {P : Int × Int} {v : Value} (h : (coverL l P = true ∧ v = .slice none 0 0) ∨ (coverL l P = false ∧ w'.ownsRow B 39 2 v (insideL l P).length (flat2 (insideL l P)))) : ∃ q c, v = .slice q (insL l P).length c ∧ Pairs w' q (insL l P) := by
  rcases h with ⟨h, rfl⟩ | ⟨h, ho⟩
  · have e : insL l P = [] := by unfold insL; rw [h]; simp
    rw [e]
    exact ⟨none, 0, rfl, pairs_nil _ _⟩
  · have e : insL l P = insideL l P := by unfold insL; rw [h]; simp
    rw [e]
    obtain ⟨q, c, hv, -, -, hp⟩ := own_pairs ho
    exact ⟨q, c, hv, hp⟩

theorem store_kept {w : World} {b : Nat} {p : Addr} {u : Value} (h : w.cell? p = some u) (hne : p.block ≠ b) (x y : Value) : ((w.setCell ⟨b, 0, none⟩ x).setCell ⟨b, 1, none⟩ y).cell? p = some u := by
  rw [World.cell?_setCell_far _ _ _ _ (Ne.symm hne), World.cell?_setCell_far _ _ _ _ (Ne.symm hne)]; exact h
theorem row_store {w : World} {b : Nat} {x y u v : Value} {t : TypeId} (h : w.heap[b]? = some (.cells #[x, y] t (0, 0))) : ((w.setCell ⟨b, 0, none⟩ u).setCell ⟨b, 1, none⟩ v).heap[b]? = some (.cells #[u, v] t (0, 0)) :=
  heap_setCell_same _ b 1 #[u, y] t v (heap_setCell_same w b 0 #[x, y] t u h)
theorem one_pair {W : World} {b : Nat} {P : Int × Int} {pa pn : Int} {t : TypeId} (h1 : P.1 = pa) (h2 : P.2 = pn) (h : W.heap[b]? = some (.cells #[.int .i64 pa, .int .i64 pn] t (0, 0))) : Pairs W (some ⟨b, 0, none⟩) [P] := by
  intro i hi
  have hi0 : i = 0 := by simp at hi; omega
  subst hi0
  refine ⟨b, 0, rfl, ?_, ?_⟩
  · simpa [h1] using (row_cells h).1
  · simpa [h2] using (row_cells h).2.1

set_option linter.unusedVariables false in
set_option linter.unusedSimpArgs false in
set_option maxRecDepth 100000 in
set_option maxHeartbeats 8000000 in
theorem rBuild_any (d : Nat) : ∀ (P : Int × Int), rt P.1 P.2 = true → (32 - P.2).toNat = d → ∀ (A B : List (Int × Int)), Rights A → Rights B → ∀ (qa qb : Option Addr) (ca cb : Nat) (k : Int) (w : World), Pairs w qa A → Pairs w qb B → A.length ≤ 1048576 → B.length ≤ 1048576 →
    Calls Tryz.prog 20 #[.agg #[.int .i64 P.1, .int .i64 P.2], .slice qa A.length ca, .slice qb B.length cb, .int .i64 k] w fun e w' => (∃ L all v, e = .returned (.tuple #[v, .bool all]) ∧ Built P (wantG A B k) L all ∧ w'.ownsRow w.heap.size 39 2 v L.length (flat2 L)) ∧ Below w.heap.size w w' := by
  induction d using Nat.strongRecOn with
  | ind d ih =>
  intro P hP hd A B hA hB qa qb ca cb k w hpa hpb hla hlb
  obtain ⟨i0, hi, hz0, hz1, hz2⟩ := info_parts infoPre
  obtain ⟨IH⟩ : Nonempty (Hid (∀ m, m < d → _)) := ⟨ih⟩
  clear ih
  have hba := below_alloc w (.cells #[.int .i64 P.1, .int .i64 P.2] 39)
  have hrow := Go.heap_alloc_new w (.cells #[.int .i64 P.1, .int .i64 P.2] 39)
  obtain ⟨HIN⟩ : Nonempty (Hid (Calls _ _ _ _ _)) := ⟨rInside_any A hA P hP qa ca _ (hpa.below hba) (by omega)⟩
  obtain ⟨pa, hea⟩ : ∃ a, Hid (P.1 = a) := ⟨_, show _ = _ from rfl⟩
  obtain ⟨pn, hen⟩ : ∃ a, Hid (P.2 = a) := ⟨_, show _ = _ from rfl⟩
  rw [show P.1 = pa from hea.out, show P.2 = pn from hen.out] at hba hrow HIN ⊢
  obtain ⟨b4, hb4⟩ : ∃ b, Hid (w.heap.size = b) := ⟨_, show _ = _ from rfl⟩
  obtain ⟨W0, hW0⟩ : ∃ W, Hid (w.alloc (.cells #[.int .i64 pa, .int .i64 pn] 39) = W) := ⟨_, show _ = _ from rfl⟩
  rw [show w.alloc (.cells #[.int .i64 pa, .int .i64 pn] 39) = W0 from hW0.out] at hba hrow HIN
  rw [show w.heap.size = b4 from hb4.out] at hrow
  obtain ⟨HB⟩ : Nonempty (Hid (Rights A ∧ Rights B ∧ rt P.1 P.2 = true ∧ (32 - P.2).toNat = d ∧ Pairs W0 qa A ∧ Pairs W0 qb B ∧ Below w.heap.size w W0 ∧ W0.cell? ⟨b4, 0, none⟩ = some (.int .i64 pa) ∧ W0.cell? ⟨b4, 1, none⟩ = some (.int .i64 pn) ∧ W0.frozen? ⟨b4, 0, none⟩ = false)) := ⟨⟨hA, hB, hP, hd, hpa.below hba, hpb.below hba, hba, (row_cells hrow).1, (row_cells hrow).2.1, (row_cells hrow).2.2.1⟩⟩
  clear hA hB hP hd hpa hpb hba hrow
  go_enter Tryz.func20, Tryz.ntmps20
  go_upto_region 1 with fail
  rw [show w.alloc (.cells #[.int .i64 pa, .int .i64 pn] 39) = W0 from hW0.out, show w.heap.size = b4 from hb4.out]
  obtain ⟨x0, x1⟩ : W0.cell? ⟨b4, 0, none⟩ = some (.int .i64 pa) ∧ W0.cell? ⟨b4, 1, none⟩ = some (.int .i64 pn) := ⟨HB.out.2.2.2.2.2.2.2.1, HB.out.2.2.2.2.2.2.2.2.1⟩
  go_wp2_with fail
  refine HIN.out.mono ?_
  clear HIN
  rintro e w1 ⟨⟨v1, rfl, hv1⟩, hb1⟩
  obtain ⟨qx, cx, rfl, hpx⟩ := inside_get hv1
  obtain ⟨HIN⟩ : Nonempty (Hid (Calls _ _ _ _ _)) := ⟨rInside_any B HB.out.2.1 P HB.out.2.2.1 qb cb w1 (HB.out.2.2.2.2.2.1.below hb1) (by omega)⟩
  rw [show P.1 = pa from hea.out, show P.2 = pn from hen.out] at HIN
  have y0 := cell_kept hb1 x0
  have y1 := cell_kept hb1 x1
  clear hv1 x0 x1
  go_wp2_with fail
  refine HIN.out.mono ?_
  clear HIN
  rintro e w2 ⟨⟨v2, rfl, hv2⟩, hb2⟩
  obtain ⟨qy, cy, rfl, hpy⟩ := inside_get hv2
  have hbc := hb1.trans (hb2.mono hb1.size)
  obtain ⟨X, hX⟩ : ∃ X, Hid (insL A P = X) := ⟨_, show _ = _ from rfl⟩
  obtain ⟨Y, hY⟩ : ∃ Y, Hid (insL B P = Y) := ⟨_, show _ = _ from rfl⟩
  obtain ⟨c1, hc1⟩ : ∃ c, Hid (coverL A P = c) := ⟨_, show _ = _ from rfl⟩
  obtain ⟨c2, hc2⟩ : ∃ c, Hid (coverL B P = c) := ⟨_, show _ = _ from rfl⟩
  have hxl := insL_length A P
  have hyl := insL_length B P
  have hpx' := hpx.below hb2
  rw [show insL A P = X from hX.out] at hpx' hxl ⊢
  rw [show insL B P = Y from hY.out] at hpy hyl ⊢
  rw [show coverL A P = c1 from hc1.out, show coverL B P = c2 from hc2.out]
  obtain ⟨HXY⟩ : Nonempty (Hid (Pairs w2 qx X ∧ Pairs w2 qy Y)) := ⟨⟨hpx', hpy⟩⟩
  clear hpx hpx' hpy hv2 hb1 hb2 y0 y1
  obtain ⟨bs, hbs⟩ : ∃ b, Hid (((c1 || decide (X = [])) && (c2 || decide (Y = []))) = b) := ⟨_, show _ = _ from rfl⟩
  go_upto_region 3 with fail
  go_cut [46] from 33 (fun s w' => s = .bool bs ∧ ∃ W, W = w' ∧ Below W0.heap.size W0 W ∧ Pairs W qx X ∧ Pairs W qy Y)
  case first =>
    as_aux_lemma =>
    have hxx : X = [] ∨ ¬ X = [] := Classical.em _
    have hyy : Y = [] ∨ ¬ Y = [] := Classical.em _
    cases c1 <;> cases c2 <;> rcases hxx with hxx | hxx <;> rcases hyy with hyy | hyy
    all_goals
      have hbv := hbs.out
      simp only [hxx, hyy, decide_true, decide_false, Bool.or_true, Bool.or_false, Bool.and_true, Bool.and_false, Bool.true_and, Bool.false_and, Bool.true_or, Bool.false_or] at hbv
      subst hbv
      first
        | (have hx1 : ((X.length : Int) == 0) = true := by rw [hxx]; rfl)
        | (have hx1 : ((X.length : Int) == 0) = false := by rw [beq_eq_false_iff_ne]; intro e; exact hxx (List.eq_nil_of_length_eq_zero (by omega)))
      first
        | (have hy1 : ((Y.length : Int) == 0) = true := by rw [hyy]; rfl)
        | (have hy1 : ((Y.length : Int) == 0) = false := by rw [beq_eq_false_iff_ne]; intro e; exact hyy (List.eq_nil_of_length_eq_zero (by omega)))
      clear hxx hyy hbs
      go_wp2_with fail
      go_meet
      exact ⟨rfl, _, rfl, hbc, HXY.out.1, HXY.out.2⟩
  case rest =>
    as_aux_lemma =>
    obtain ⟨rfl, w3, hw3, hbc3, hpx, hpy⟩ := hcut
    subst hw3
    clear hbc HXY
    have q0 := cell_kept hbc3 HB.out.2.2.2.2.2.2.2.1
    have q1 := cell_kept hbc3 HB.out.2.2.2.2.2.2.2.2.1
    have hszW : w.heap.size ≤ w3.heap.size := Nat.le_trans HB.out.2.2.2.2.2.2.1.size hbc3.size
    have hbw3 := HB.out.2.2.2.2.2.2.1.trans (hbc3.mono HB.out.2.2.2.2.2.2.1.size)
    cases bs with
    | true =>
      have hbv := hbs.out
      rw [Bool.and_eq_true, Bool.or_eq_true, Bool.or_eq_true, decide_eq_true_iff, decide_eq_true_iff, ← show coverL A P = c1 from hc1.out, ← show coverL B P = c2 from hc2.out, ← show insL A P = X from hX.out, ← show insL B P = Y from hY.out] at hbv
      obtain ⟨u, hu⟩ : ∃ u, Hid (wantB c1 c2 k = u) := ⟨_, show _ = _ from rfl⟩
      have hg : ∀ x, P.1 ≤ x → x < P.1 + pw P.2 → wantG A B k x = u := fun x z1 z2 => by
        unfold wantG
        rw [flat_in HB.out.1 HB.out.2.2.1 hbv.1 x z1 z2, flat_in HB.out.2.1 HB.out.2.2.1 hbv.2 x z1 z2, show coverL A P = c1 from hc1.out, show coverL B P = c2 from hc2.out]
        exact hu.out
      obtain ⟨HG⟩ : Nonempty (Hid (∀ x, P.1 ≤ x → x < P.1 + pw P.2 → wantG A B k x = u)) := ⟨hg⟩
      obtain ⟨HN⟩ : Nonempty (Hid (Calls _ _ _ _ _)) := ⟨rWanted_any c1 c2 k w3⟩
      rw [show wantB c1 c2 k = u from hu.out] at HN
      clear hg hbv
      go_wp2_with fail
      refine HN.out.mono ?_
      clear HN
      rintro e w4 ⟨rfl, hw4⟩
      subst hw4
      cases u with
      | true =>
        have hbe := hbw3.alloc hszW (.cells #[.int .i64 pa, .int .i64 pn] 39)
        have hown : (w4.alloc (.cells #[.int .i64 pa, .int .i64 pn] 39)).ownsRow w.heap.size 39 2 (.slice (some ⟨w4.heap.size, 0, none⟩) 1 1) 1 [.int .i64 pa, .int .i64 pn] := World.ownsRow_lit w4 #[.int .i64 pa, .int .i64 pn] 1 hszW (by decide) rfl
        obtain ⟨HW⟩ : Nonempty (Hid ((w4.alloc (.cells #[.int .i64 pa, .int .i64 pn] 39)).ownsRow w.heap.size 39 2 (.slice (some ⟨w4.heap.size, 0, none⟩) 1 1) [P].length (flat2 [P]))) := ⟨by rw [Hid, flat2_one, show P.1 = pa from hea.out, show P.2 = pn from hen.out]; exact hown⟩
        clear hown
        go_wp2
        exact bodyPost_ret (v := .tuple #[.slice (some ⟨w4.heap.size, 0, none⟩) 1 1, .bool true]) (by simp [results, Tryz.results20, go_sem]) rfl ⟨⟨[P], true, _, rfl, built_one HB.out.2.2.1 HG.out, HW.out⟩, hbe⟩
      | false =>
        clear q0 q1
        go_wp2
        exact bodyPost_ret (v := .tuple #[.slice none 0 0, .bool false]) (by simp [results, Tryz.results20, go_sem]) rfl ⟨⟨[], false, _, rfl, built_none HG.out, World.ownsRow_nil _ _ _ _⟩, hbw3⟩
    | false =>
      have hn32 : pn < 32 := by
        rcases Int.lt_or_le pn 32 with h | h
        · exact h
        · exfalso
          have hl := ((rt_iff _ _).1 HB.out.2.2.1).2.1
          have e32 : P.2 = 32 := by rw [show P.2 = pn from hen.out] at hl ⊢; omega
          have hbv := hbs.out
          rw [← show insL A P = X from hX.out, ← show insL B P = Y from hY.out, ins_32 HB.out.1 e32, ins_32 HB.out.2.1 e32] at hbv
          simp at hbv
      have hn0 : 0 ≤ pn := by have := ((rt_iff _ _).1 HB.out.2.2.1).2.1.1; rw [show P.2 = pn from hen.out] at this; exact this
      have hbk := below_alloc w3 (.cells #[.int .i64 pa, .int .i64 pn] 39)
      have hrow := Go.heap_alloc_new w3 (.cells #[.int .i64 pa, .int .i64 pn] 39)
      go_upto_if 54 with fail
      go_cut [10] from 54 (fun s w' => ∃ (A' : List (Int × Int)) (ra : Option Addr) (da : Nat) (W : World), s = .slice ra A'.length da ∧ Hid (Down P A A' ∧ Pairs W ra A') ∧ A'.length ≤ 1048576 ∧ W = w' ∧ Below w3.heap.size w3 W)
      case first =>
        as_aux_lemma =>
        cases c1 with
        | true =>
          obtain ⟨HF⟩ : Nonempty (Hid (Down P A [P] ∧ Pairs (w3.alloc (.cells #[.int .i64 pa, .int .i64 pn] 39)) (some ⟨w3.heap.size, 0, none⟩) [P])) := ⟨down_cover HB.out.1 HB.out.2.2.1 hc1.out, one_pair (hea.out) (hen.out) hrow⟩
          clear hrow
          go_wp2_with fail
          go_meet
          exact ⟨[P], _, _, _, rfl, HF.out, by simp, rfl, hbk⟩
        | false =>
          obtain ⟨HF⟩ : Nonempty (Hid (Down P A X ∧ Pairs w3 qx X)) := ⟨by rw [← hX.out]; exact down_inside HB.out.1 HB.out.2.2.1 hc1.out, hpx⟩
          clear hrow
          go_wp2_with fail
          go_meet
          exact ⟨X, _, _, _, rfl, HF.out, by omega, rfl, Below.refl _ _⟩
      case rest =>
        as_aux_lemma =>
        obtain ⟨A', ra, da, w4, rfl, HDA, hla', hw4, hb34⟩ := hcut
        subst hw4
        clear hbk hrow hpx
        have hbc4 := hbc3.trans (hb34.mono hbc3.size)
        have hpy4 := hpy.below hb34
        have r0 := cell_kept hb34 q0
        have r1 := cell_kept hb34 q1
        have hbk := below_alloc w4 (.cells #[.int .i64 pa, .int .i64 pn] 39)
        have hrow := Go.heap_alloc_new w4 (.cells #[.int .i64 pa, .int .i64 pn] 39)
        clear hb34 hbc3 hpy q0 q1 hbw3 hszW
        go_upto_if 57 with fail
        go_cut [12] from 57 (fun s w' => ∃ (B' : List (Int × Int)) (rb : Option Addr) (db : Nat) (W : World), s = .slice rb B'.length db ∧ Hid (Down P B B' ∧ Pairs W rb B') ∧ B'.length ≤ 1048576 ∧ W = w' ∧ Below w4.heap.size w4 W)
        case first =>
          as_aux_lemma =>
          cases c2 with
          | true =>
            obtain ⟨HF⟩ : Nonempty (Hid (Down P B [P] ∧ Pairs (w4.alloc (.cells #[.int .i64 pa, .int .i64 pn] 39)) (some ⟨w4.heap.size, 0, none⟩) [P])) := ⟨down_cover HB.out.2.1 HB.out.2.2.1 hc2.out, one_pair (hea.out) (hen.out) hrow⟩
            clear hrow
            go_wp2_with fail
            go_meet
            exact ⟨[P], _, _, _, rfl, HF.out, by simp, rfl, hbk⟩
          | false =>
            obtain ⟨HF⟩ : Nonempty (Hid (Down P B Y ∧ Pairs w4 qy Y)) := ⟨by rw [← hY.out]; exact down_inside HB.out.2.1 HB.out.2.2.1 hc2.out, hpy4⟩
            clear hrow
            go_wp2_with fail
            go_meet
            exact ⟨Y, _, _, _, rfl, HF.out, by omega, rfl, Below.refl _ _⟩
        case rest =>
        as_aux_lemma =>
        obtain ⟨B', rb, db, w5, rfl, HDB, hlb', hw5, hb45⟩ := hcut
        subst hw5
        have hbc5 := hbc4.trans (hb45.mono hbc4.size)
        have q0 := cell_kept hb45 r0
        have q1 := cell_kept hb45 r1
        obtain ⟨HDN⟩ : Nonempty (Hid (Down P A A' ∧ Down P B B' ∧ Pairs w5 ra A' ∧ Pairs w5 rb B')) := ⟨⟨HDA.out.1, HDB.out.1, HDA.out.2.below hb45, HDB.out.2⟩⟩
        clear hbk hrow hpy4 hb45 hbc4 r0 r1 HDA HDB hbs
        have hrtP := HB.out.2.2.1
        have hend := rt_end hrtP
        have hA0 := ((rt_iff _ _).1 hrtP).1
        have hrl := rt_left hrtP (by rw [show P.2 = pn from hen.out]; exact hn32)
        have hrr := rt_rightH hrtP (by rw [show P.2 = pn from hen.out]; exact hn32)
        have hstep := pw_step P.2 (by rw [show P.2 = pn from hen.out]; exact hn32)
        rw [show P.1 = pa from hea.out] at hend hA0 hrl hrr
        rw [show P.2 = pn from hen.out] at hend hrl hrr hstep
        obtain ⟨nn, hnn⟩ : ∃ z, Hid (pn + 1 = z) := ⟨_, show _ = _ from rfl⟩
        obtain ⟨sz, hsz⟩ : ∃ z, Hid (pw nn = z) := ⟨_, show _ = _ from rfl⟩
        obtain ⟨rr, hrr'⟩ : ∃ z, Hid (pa + sz = z) := ⟨_, show _ = _ from rfl⟩
        rw [show pn + 1 = nn from hnn.out] at hrl hrr hstep
        rw [show pw nn = sz from hsz.out] at hrr hstep
        rw [show pa + sz = rr from hrr'.out] at hrr
        have hpp := pw_pos nn
        rw [show pw nn = sz from hsz.out] at hpp
        have hnb : nn = pn + 1 := hnn.out.symm
        have hrb : rr = pa + sz := hrr'.out.symm
        have hw1 : IntKind.i64.wrap (pn + 1) = nn := by rw [wrapI _ (by omega) (by omega)]; exact hnn.out
        have hw2 : IntKind.i64.wrap (pa + sz) = rr := by rw [wrapI _ (by omega) (by omega)]; exact hrr'.out
        have hLn : isL nn = true := (isL_iff nn).2 (by omega)
        obtain ⟨HSZ⟩ : Nonempty (Hid (∀ W : World, Calls Tryz.prog 11 #[.int .i64 nn] W fun e w' => e = .returned (.int .i64 sz) ∧ w' = W)) := ⟨fun W => rSizeOf_at nn sz hsz hLn W⟩
        obtain ⟨HR⟩ : Nonempty (Hid (rt pa nn = true ∧ rt rr nn = true ∧ nn = pn + 1 ∧ rr = pa + sz ∧ pw nn = sz ∧ pw pn = 2 * sz ∧ 1 ≤ sz)) := ⟨⟨hrl, hrr, hnb, hrb, hsz.out, hstep, hpp⟩⟩
        clear hrtP hend hA0 hrl hrr hstep hpp hnb hrb hLn
        go_upto_region 13 with fail
        have hb56 := below_alloc w5 (.cells #[.int .i64 pa, .int .i64 nn] 39)
        have hr15 := Go.heap_alloc_new w5 (.cells #[.int .i64 pa, .int .i64 nn] 39)
        obtain ⟨b15, hb15⟩ : ∃ b, Hid (w5.heap.size = b) := ⟨_, show _ = _ from rfl⟩
        obtain ⟨w6, hw6⟩ : ∃ W, Hid (w5.alloc (.cells #[.int .i64 pa, .int .i64 nn] 39) = W) := ⟨_, show _ = _ from rfl⟩
        rw [show w5.alloc (.cells #[.int .i64 pa, .int .i64 nn] 39) = w6 from hw6.out] at hb56 hr15 ⊢
        have hbc6 := hbc5.trans (hb56.mono hbc5.size)
        have s0 := cell_kept hb56 q0
        have s1 := cell_kept hb56 q1
        have hb4l : b4 < w6.heap.size := cell_lt' s0
        rw [show w5.heap.size = b15 from hb15.out] at hr15 ⊢
        obtain ⟨HD6⟩ : Nonempty (Hid (Down P A A' ∧ Down P B B' ∧ Pairs w6 ra A' ∧ Pairs w6 rb B' ∧ w6.heap[b15]? = some (.cells #[.int .i64 pa, .int .i64 nn] 39 (0, 0)) ∧ Below W0.heap.size W0 w6 ∧ w6.cell? ⟨b4, 0, none⟩ = some (.int .i64 pa) ∧ w6.cell? ⟨b4, 1, none⟩ = some (.int .i64 pn))) := ⟨⟨HDN.out.1, HDN.out.2.1, HDN.out.2.2.1.below hb56, HDN.out.2.2.2.below hb56, hr15, hbc6, s0, s1⟩⟩
        clear hb56 hr15 hbc6 hbc5 q0 q1 HDN hw6 hb15
        go_cut [16] from 66 (fun s w' => ∃ (b16 : Nat) (W : World), s = .pointer (some ⟨b16, 0, none⟩) ∧ W = w' ∧ W.heap[b16]? = some (.cells #[.int .i64 rr, .int .i64 nn] 39 (0, 0)) ∧ Below w6.heap.size w6 W)
        case first =>
          as_aux_lemma =>
          refine wp_region_held_drew (S := (fun w' => w'.cell? ⟨b4, 0, none⟩ = some (.int .i64 pa) ∧ w'.cell? ⟨b4, 1, none⟩ = some (.int .i64 pn))) (by kernel_rfl) ?_ (fun hHeld => ?_)
          · exact ⟨s0, s1⟩
          refine wpAnyH_take (i := 0) (v := ?_) rfl (by kernel_rfl) (by kernel_rfl) (by kernel_rfl) (fun _ _ _ h => h) (Or.inl ⟨by rfl, ?_⟩) (by assumption) ?_
          rotate_left
          · (intro w hSw; (try dsimp only at hSw); go_simp; try (with_reducible rfl))
          try simp only [Act.put, List.setIfInBounds_toArray, List.set_cons_zero, List.set_cons_succ, List.getElem_toArray, List.getElem_cons_zero, List.getElem_cons_succ]
          refine wpAnyH_take (i := 1) (v := ?_) rfl (by kernel_rfl) (by kernel_rfl) (by kernel_rfl) (fun _ _ _ h => h) (Or.inl ⟨by rfl, ?_⟩) (by assumption) ?_
          rotate_left
          · (intro w hSw; (try dsimp only at hSw); go_simp; try (with_reducible rfl))
          try simp only [Act.put, List.setIfInBounds_toArray, List.set_cons_zero, List.set_cons_succ, List.getElem_toArray, List.getElem_cons_zero, List.getElem_cons_succ]
          refine wpAnyH_take (i := 2) (v := ?_) rfl (by kernel_rfl) (by kernel_rfl) (by kernel_rfl) (fun _ _ _ h => h) (Or.inl ⟨by rfl, ?_⟩) (by assumption) ?_
          rotate_left
          · (intro w hSw; (try dsimp only at hSw); go_simp; try (with_reducible rfl))
          try simp only [Act.put, List.setIfInBounds_toArray, List.set_cons_zero, List.set_cons_succ, List.getElem_toArray, List.getElem_cons_zero, List.getElem_cons_succ]
          refine wpAnyH_take (i := 3) (v := ?_) rfl (by kernel_rfl) (by kernel_rfl) (by kernel_rfl) (fun _ _ _ h => h) (Or.inl ⟨by rfl, ?_⟩) (by assumption) ?_
          rotate_left
          · (intro w hSw; (try dsimp only at hSw); go_simp; try (with_reducible rfl))
          try simp only [Act.put, List.setIfInBounds_toArray, List.set_cons_zero, List.set_cons_succ, List.getElem_toArray, List.getElem_cons_zero, List.getElem_cons_succ]
          refine wpAnyH_take (i := 4) (v := ?_) rfl (by kernel_rfl) (by kernel_rfl) (by kernel_rfl) (fun _ _ _ h => h) (Or.inl ⟨by rfl, ?_⟩) (by assumption) ?_
          rotate_left
          · (intro w hSw; (try dsimp only at hSw); go_simp; try (with_reducible rfl))
          try simp only [Act.put, List.setIfInBounds_toArray, List.set_cons_zero, List.set_cons_succ, List.getElem_toArray, List.getElem_cons_zero, List.getElem_cons_succ]
          refine wpAnyH_take (i := 7) (v := ?_) rfl (by kernel_rfl) (by kernel_rfl) (by kernel_rfl) (fun _ _ _ h => h) (Or.inl ⟨by rfl, ?_⟩) (by assumption) ?_
          rotate_left
          · (intro w hSw; (try dsimp only at hSw); go_simp; try (with_reducible rfl))
          try simp only [Act.put, List.setIfInBounds_toArray, List.set_cons_zero, List.set_cons_succ, List.getElem_toArray, List.getElem_cons_zero, List.getElem_cons_succ]
          refine wpAnyH_take (i := 8) (v := ?_) rfl (by kernel_rfl) (by kernel_rfl) (by kernel_rfl) (fun _ _ _ h => h) (Or.inl ⟨by rfl, ?_⟩) (by assumption) ?_
          rotate_left
          · (intro w hSw; (try dsimp only at hSw); go_simp; try (with_reducible rfl))
          try simp only [Act.put, List.setIfInBounds_toArray, List.set_cons_zero, List.set_cons_succ, List.getElem_toArray, List.getElem_cons_zero, List.getElem_cons_succ]
          refine wpAnyH_take (i := 9) (v := ?_) rfl (by kernel_rfl) (by kernel_rfl) (by kernel_rfl) (fun _ _ _ h => h) (Or.inl ⟨by rfl, ?_⟩) (by assumption) ?_
          rotate_left
          · (intro w hSw; (try dsimp only at hSw); go_simp; try (with_reducible rfl))
          try simp only [Act.put, List.setIfInBounds_toArray, List.set_cons_zero, List.set_cons_succ, List.getElem_toArray, List.getElem_cons_zero, List.getElem_cons_succ]
          refine wpAnyH_ready (rs := [5, 11]) (by kernel_rfl) (by simp) ?_
          refine AllReadyH.cons rfl (fun K hK => ?_) (AllReadyH.cons rfl (fun K hK => ?_) AllReadyH.nil)
          · skip
            go_simp
            refine (HSZ.out _).mono ?_
            rintro e w9 ⟨rfl, hw9⟩
            subst hw9
            have hKeep := hHeld
            clear hHeld
            refine hK.out _ _ ?_ (fun hHeld => ?_)
            · exact hKeep
            clear hK K hKeep
            try simp only [Act.put, List.setIfInBounds_toArray, List.set_cons_zero, List.set_cons_succ, List.getElem_toArray, List.getElem_cons_zero, List.getElem_cons_succ]
            refine wpAnyH_take (i := 6) (v := ?_) rfl (by kernel_rfl) (by kernel_rfl) (by kernel_rfl) (fun _ _ _ h => h) (Or.inl ⟨by rfl, ?_⟩) (by assumption) ?_
            rotate_left
            · (intro w hSw; (try dsimp only at hSw); go_simp; try (with_reducible rfl))
            try simp only [Act.put, List.setIfInBounds_toArray, List.set_cons_zero, List.set_cons_succ, List.getElem_toArray, List.getElem_cons_zero, List.getElem_cons_succ]
            refine wpAnyH_take (i := 10) (v := ?_) rfl (by kernel_rfl) (by kernel_rfl) (by kernel_rfl) (fun _ _ _ h => h) (Or.inl ⟨by rfl, ?_⟩) (by assumption) ?_
            rotate_left
            · (intro w hSw; (try dsimp only at hSw); go_simp; try (with_reducible rfl))
            try simp only [Act.put, List.setIfInBounds_toArray, List.set_cons_zero, List.set_cons_succ, List.getElem_toArray, List.getElem_cons_zero, List.getElem_cons_succ]
            refine wpAnyH_ready (rs := [11]) (by kernel_rfl) (by simp) ?_
            refine AllReadyH.cons rfl (fun K hK => ?_) AllReadyH.nil
            go_simp
            have hKeep := And.intro (cell_kept (below_alloc w6.drew (.cells #[.int .i64 0, .int .i64 0] 39)) hHeld.1) (cell_kept (below_alloc w6.drew (.cells #[.int .i64 0, .int .i64 0] 39)) hHeld.2)
            clear hHeld
            refine hK.out _ _ ?_ (fun hHeld => ?_)
            · exact hKeep
            clear hK K hKeep
            try simp only [Act.put, List.setIfInBounds_toArray, List.set_cons_zero, List.set_cons_succ, List.getElem_toArray, List.getElem_cons_zero, List.getElem_cons_succ]
            refine wpAnyH_ready (rs := [12]) (by kernel_rfl) (by simp) ?_
            refine AllReadyH.cons rfl (fun K hK => ?_) AllReadyH.nil
            go_simp
            refine hK.out _ _ ?_ (fun hHeld => ?_)
            · first | exact ⟨store_kept hHeld.1 (Nat.ne_of_lt hb4l) _ _, store_kept hHeld.2 (Nat.ne_of_lt hb4l) _ _⟩ | exact ⟨cell_kept (below_alloc w6.drew _) HD6.out.2.2.2.2.2.2.1, cell_kept (below_alloc w6.drew _) HD6.out.2.2.2.2.2.2.2⟩
            clear hK K
            try simp only [Act.put, List.setIfInBounds_toArray, List.set_cons_zero, List.set_cons_succ, List.getElem_toArray, List.getElem_cons_zero, List.getElem_cons_succ]
            refine wpAnyH_done (by kernel_rfl) ?_ _
            clear hHeld
            go_wp2_with fail
            go_meet
            first | exact ⟨_, _, rfl, rfl, Go.heap_alloc_new w6.drew _, (Below.refl _ w6).drew.alloc (Nat.le_refl _) _⟩ | exact ⟨_, _, rfl, rfl, row_store (Go.heap_alloc_new w6.drew _), (((Below.refl _ w6).drew.alloc (Nat.le_refl _) _).setCell (Nat.le_refl _) _).setCell (Nat.le_refl _) _⟩
          · skip
            go_simp
            have hKeep := And.intro (cell_kept (below_alloc w6.drew (.cells #[.int .i64 0, .int .i64 0] 39)) hHeld.1) (cell_kept (below_alloc w6.drew (.cells #[.int .i64 0, .int .i64 0] 39)) hHeld.2)
            clear hHeld
            refine hK.out _ _ ?_ (fun hHeld => ?_)
            · exact hKeep
            clear hK K hKeep
            try simp only [Act.put, List.setIfInBounds_toArray, List.set_cons_zero, List.set_cons_succ, List.getElem_toArray, List.getElem_cons_zero, List.getElem_cons_succ]
            refine wpAnyH_ready (rs := [5]) (by kernel_rfl) (by simp) ?_
            refine AllReadyH.cons rfl (fun K hK => ?_) AllReadyH.nil
            go_simp
            refine (HSZ.out _).mono ?_
            rintro e w9 ⟨rfl, hw9⟩
            subst hw9
            have hKeep := hHeld
            clear hHeld
            refine hK.out _ _ ?_ (fun hHeld => ?_)
            · exact hKeep
            clear hK K hKeep
            try simp only [Act.put, List.setIfInBounds_toArray, List.set_cons_zero, List.set_cons_succ, List.getElem_toArray, List.getElem_cons_zero, List.getElem_cons_succ]
            refine wpAnyH_take (i := 6) (v := ?_) rfl (by kernel_rfl) (by kernel_rfl) (by kernel_rfl) (fun _ _ _ h => h) (Or.inl ⟨by rfl, ?_⟩) (by assumption) ?_
            rotate_left
            · (intro w hSw; (try dsimp only at hSw); go_simp; try (with_reducible rfl))
            try simp only [Act.put, List.setIfInBounds_toArray, List.set_cons_zero, List.set_cons_succ, List.getElem_toArray, List.getElem_cons_zero, List.getElem_cons_succ]
            refine wpAnyH_take (i := 10) (v := ?_) rfl (by kernel_rfl) (by kernel_rfl) (by kernel_rfl) (fun _ _ _ h => h) (Or.inl ⟨by rfl, ?_⟩) (by assumption) ?_
            rotate_left
            · (intro w hSw; (try dsimp only at hSw); go_simp; try (with_reducible rfl))
            try simp only [Act.put, List.setIfInBounds_toArray, List.set_cons_zero, List.set_cons_succ, List.getElem_toArray, List.getElem_cons_zero, List.getElem_cons_succ]
            refine wpAnyH_ready (rs := [12]) (by kernel_rfl) (by simp) ?_
            refine AllReadyH.cons rfl (fun K hK => ?_) AllReadyH.nil
            go_simp
            refine hK.out _ _ ?_ (fun hHeld => ?_)
            · first | exact ⟨store_kept hHeld.1 (Nat.ne_of_lt hb4l) _ _, store_kept hHeld.2 (Nat.ne_of_lt hb4l) _ _⟩ | exact ⟨cell_kept (below_alloc w6.drew _) HD6.out.2.2.2.2.2.2.1, cell_kept (below_alloc w6.drew _) HD6.out.2.2.2.2.2.2.2⟩
            clear hK K
            try simp only [Act.put, List.setIfInBounds_toArray, List.set_cons_zero, List.set_cons_succ, List.getElem_toArray, List.getElem_cons_zero, List.getElem_cons_succ]
            refine wpAnyH_done (by kernel_rfl) ?_ _
            clear hHeld
            go_wp2_with fail
            go_meet
            first | exact ⟨_, _, rfl, rfl, Go.heap_alloc_new w6.drew _, (Below.refl _ w6).drew.alloc (Nat.le_refl _) _⟩ | exact ⟨_, _, rfl, rfl, row_store (Go.heap_alloc_new w6.drew _), (((Below.refl _ w6).drew.alloc (Nat.le_refl _) _).setCell (Nat.le_refl _) _).setCell (Nat.le_refl _) _⟩
        case rest =>
          as_aux_lemma =>
          obtain ⟨b16, w7, rfl, hw7, hr16, hb67⟩ := hcut
          subst hw7
          clear s0 s1
          obtain ⟨gA, gB, gpa, gpb, g15, gbc, g0, g1⟩ := HD6.out
          have hl15 := (row_cells g15).2.2.2.2
          have hr15 : w7.heap[b15]? = some (.cells #[.int .i64 pa, .int .i64 nn] 39 (0, 0)) := by rw [hb67.block b15 hl15]; exact g15
          have hbc7 := gbc.trans (hb67.mono gbc.size)
          have ePl : ((pa, nn) : Int × Int) = (P.1, P.2 + 1) := by rw [show P.1 = pa from hea.out, show P.2 = pn from hen.out, HR.out.2.2.1]
          have ePr : ((rr, nn) : Int × Int) = (P.1 + pw (P.2 + 1), P.2 + 1) := by rw [show P.1 = pa from hea.out, show P.2 = pn from hen.out, ← HR.out.2.2.1, HR.out.2.2.2.2.1, HR.out.2.2.2.1]
          have hdl : (32 - nn).toNat < d := by
            have h1 := HB.out.2.2.2.1
            rw [show P.2 = pn from hen.out] at h1
            have h2 := HR.out.2.2.1
            omega
          have hP32 : P.2 < 32 := by rw [show P.2 = pn from hen.out]; exact hn32
          obtain ⟨hr1, hr2, hnn', hrr2, hpwn, hpwp, hsz1⟩ := HR.out
          obtain ⟨HIH⟩ : Nonempty (Hid (∀ (R : Int) (W : World), rt R nn = true → Pairs W ra A' → Pairs W rb B' → Calls Tryz.prog 20 #[.agg #[.int .i64 R, .int .i64 nn], .slice ra A'.length da, .slice rb B'.length db, .int .i64 k] W fun e w' => (∃ L all v, e = .returned (.tuple #[v, .bool all]) ∧ Built (R, nn) (wantG A' B' k) L all ∧ w'.ownsRow W.heap.size 39 2 v L.length (flat2 L)) ∧ Below W.heap.size W w')) := ⟨fun R W hr h1 h2 => IH.out _ hdl (R, nn) hr rfl A' B' gA.right gB.right ra rb da db k W h1 h2 hla' hlb'⟩
          obtain ⟨HM⟩ : Nonempty (Hid (((pa, nn) : Int × Int) = (P.1, P.2 + 1) ∧ ((rr, nn) : Int × Int) = (P.1 + pw (P.2 + 1), P.2 + 1) ∧ P.2 < 32 ∧ P.1 ≤ pa ∧ pa + pw nn ≤ P.1 + pw P.2 ∧ P.1 ≤ rr ∧ rr + pw nn ≤ P.1 + pw P.2 ∧ Down P A A' ∧ Down P B B')) := ⟨⟨ePl, ePr, hP32, by rw [show P.1 = pa from hea.out]; omega, by rw [show P.1 = pa from hea.out, show P.2 = pn from hen.out, hpwn, hpwp]; omega, by rw [show P.1 = pa from hea.out]; omega, by rw [show P.1 = pa from hea.out, show P.2 = pn from hen.out, hpwn, hpwp]; omega, gA, gB⟩⟩
          obtain ⟨HN⟩ : Nonempty (Hid (Calls _ _ _ _ _)) := ⟨HIH.out pa w7 hr1 (gpa.below hb67) (gpb.below hb67)⟩
          obtain ⟨H6⟩ : Nonempty (Hid (Pairs w7 ra A' ∧ Pairs w7 rb B' ∧ w7.cell? ⟨b4, 0, none⟩ = some (.int .i64 pa) ∧ w7.cell? ⟨b4, 1, none⟩ = some (.int .i64 pn) ∧ Below W0.heap.size W0 w7 ∧ rt rr nn = true)) := ⟨⟨gpa.below hb67, gpb.below hb67, cell_kept hb67 g0, cell_kept hb67 g1, hbc7, hr2⟩⟩
          obtain ⟨z0, z1, -, -, hl15'⟩ := row_cells hr15
          have hl16 := (row_cells hr16).2.2.2.2
          clear gA gB gpa gpb g15 gbc g0 g1 hbc7 ePl ePr hdl hP32 hr1 hr2 hnn' hrr2 hpwn hpwp hsz1 HD6 hb67 hw1 hw2 hl15 hr15 hb4l
          go_wp2_with fail
          refine HN.out.mono ?_
          clear HN
          rintro e w8 ⟨⟨L1, all1, v1, rfl, hB1, hown1⟩, hb78⟩
          have hr16' : w8.heap[b16]? = some (.cells #[.int .i64 rr, .int .i64 nn] 39 (0, 0)) := by rw [hb78.block b16 hl16]; exact hr16
          obtain ⟨y0, y1, -, -, hl16'⟩ := row_cells hr16'
          obtain ⟨HN⟩ : Nonempty (Hid (Calls _ _ _ _ _)) := ⟨HIH.out rr w8 H6.out.2.2.2.2.2 (H6.out.1.below hb78) (H6.out.2.1.below hb78)⟩
          obtain ⟨HB1⟩ : Nonempty (Hid (Built (pa, nn) (wantG A' B' k) L1 all1)) := ⟨hB1⟩
          clear z0 z1 hr16 hr16' hl16 hl15' hB1 HIH
          go_wp2_with fail
          refine HN.out.mono ?_
          clear HN
          rintro e w9 ⟨⟨L2, all2, v2, rfl, hB2, hown2⟩, hb89⟩
          have hb79 := hb78.trans (hb89.mono hb78.size)
          have hbc9 := H6.out.2.2.2.2.1.trans (hb79.mono H6.out.2.2.2.2.1.size)
          have hbw9 := HB.out.2.2.2.2.2.2.1.trans (hbc9.mono HB.out.2.2.2.2.2.2.1.size)
          have x0 := cell_kept hb79 H6.out.2.2.1
          have x1 := cell_kept hb79 H6.out.2.2.2.1
          have hszw : w.heap.size ≤ w7.heap.size := Nat.le_trans HB.out.2.2.2.2.2.2.1.size H6.out.2.2.2.2.1.size
          have hown1' := own_mono (own_below hown1 hb89) hszw
          have hsh1 := HB1.out.shift HM.out.2.2.2.2.2.2.2.1 HM.out.2.2.2.2.2.2.2.2 HM.out.2.2.2.1 HM.out.2.2.2.2.1
          have hsh2 := hB2.shift HM.out.2.2.2.2.2.2.2.1 HM.out.2.2.2.2.2.2.2.2 HM.out.2.2.2.2.2.1 HM.out.2.2.2.2.2.2.1
          rw [HM.out.1] at hsh1
          rw [HM.out.2.1] at hsh2
          obtain ⟨q2, d2, hv2, -, -, hp2⟩ := own_pairs hown2
          have hk2 := own_kind hown2
          subst hv2
          have hf1 := hsh1.np.few
          have hf2 := hsh2.np.few
          obtain ⟨HZ⟩ : Nonempty (Hid (Built (P.1, P.2 + 1) (wantG A B k) L1 all1 ∧ Built (P.1 + pw (P.2 + 1), P.2 + 1) (wantG A B k) L2 all2 ∧ Kind (.slice q2 L2.length d2) L2.length ∧ Pairs w9 q2 L2)) := ⟨⟨hsh1, hsh2, hk2, hp2⟩⟩
          clear hsh1 hsh2 hk2 hp2 hB2 hown2 hown1 hb78 hb89 hb79 hbc9 y0 y1 hl16'
          have hsz9 : w.heap.size ≤ w9.heap.size := hbw9.size
          cases hall : (all1 && all2) with
          | true =>
            rw [Bool.and_eq_true] at hall
            obtain ⟨rfl, rfl⟩ := hall
            have hbe := hbw9.alloc hsz9 (.cells #[.int .i64 pa, .int .i64 pn] 39)
            have hown : (w9.alloc (.cells #[.int .i64 pa, .int .i64 pn] 39)).ownsRow w.heap.size 39 2 (.slice (some ⟨w9.heap.size, 0, none⟩) 1 1) 1 [.int .i64 pa, .int .i64 pn] := World.ownsRow_lit w9 #[.int .i64 pa, .int .i64 pn] 1 hsz9 (by decide) rfl
            obtain ⟨HW⟩ : Nonempty (Hid ((w9.alloc (.cells #[.int .i64 pa, .int .i64 pn] 39)).ownsRow w.heap.size 39 2 (.slice (some ⟨w9.heap.size, 0, none⟩) 1 1) [P].length (flat2 [P]))) := ⟨by rw [Hid, flat2_one, show P.1 = pa from hea.out, show P.2 = pn from hen.out]; exact hown⟩
            clear hown hown1'
            go_wp2
            exact bodyPost_ret (v := .tuple #[.slice (some ⟨w9.heap.size, 0, none⟩) 1 1, .bool true]) (by simp [results, Tryz.results20, go_sem]) rfl ⟨⟨[P], true, _, rfl, built_both HB.out.2.2.1 HM.out.2.2.1 HZ.out.1 HZ.out.2.1, HW.out⟩, hbe⟩
          | false =>
            obtain ⟨HBJ⟩ : Nonempty (Hid (Built P (wantG A B k) (L1 ++ L2) false)) := ⟨built_join HB.out.2.2.1 HM.out.2.2.1 HZ.out.1 HZ.out.2.1 hall⟩
            obtain ⟨O', HO'⟩ : ∃ O', Hid (L1 ++ L2 = O') := ⟨_, show _ = _ from rfl⟩
            clear x0 x1
            cases all1 <;> cases all2
            rotate_left 3
            · simp at hall
            all_goals
              go_wp2_with (at_builtin; refine wp_addAll rfl _ _ 22 rfl w.heap.size 39 i0 Tryz.underlying22 hi hz0 hz1 hz2 _ L1 rfl hown1' q2 L2 d2 rfl HZ.out.2.2.1 HZ.out.2.2.2 O' HO' (by omega) hsz9 ?_)
              intro v' w10 hown10 hb10
              have hbe := hbw9.trans hb10
              go_wp2
              exact bodyPost_ret (v := .tuple #[v', .bool false]) (by simp [results, Tryz.results20, go_sem]) rfl ⟨⟨O', false, _, rfl, by rw [← HO'.out]; exact HBJ.out, hown10⟩, hbe⟩
end Go.Proofs.YthehpnhjfnenoaaGreatDoor
