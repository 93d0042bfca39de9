/-
  The document's ReadAttr: what is told of a route, read from a text.
-/
import Derived.Test.YtbfdgflbflajdaaGreatDoorAttrRead
namespace Go.Proofs.YtbfdgflbflajdaaGreatDoor
open Go.RowKit

theorem rCutL (l : List UInt8) (w : World) (h : l.length ≤ 100000) :
    Calls Tryz.prog 58 #[.string ⟨l.toArray⟩, .int .u8 32] w fun e w' => (∃ v, e = .returned v ∧ w'.ownsRow w.heap.size 9 1 v (parts 32 [] l).length ((parts 32 [] l).map strV)) ∧ Below w.heap.size w w' := by
  have := rCut_any ⟨l.toArray⟩ 32 w (by show l.toArray.size < _; simp; omega)
  simpa using this
theorem rUnl45 (l : List UInt8) (w : World) (h : l.length ≤ 100000) :
    Calls Tryz.prog 59 #[.string ⟨l.toArray⟩, .int .u8 45] w fun e w' => (∃ v, e = .returned (.tuple #[v, .bool (unlOk 45 l)]) ∧ ReadRow w' w.heap.size v (unlOk 45 l) (unlN 45 l)) ∧ Below w.heap.size w w' := by
  have := rUnlist_any ⟨l.toArray⟩ 45 w (by show l.toArray.size < _; simp; omega)
  simpa using this
theorem rUnl44 (l : List UInt8) (w : World) (h : l.length ≤ 100000) :
    Calls Tryz.prog 59 #[.string ⟨l.toArray⟩, .int .u8 44] w fun e w' => (∃ v, e = .returned (.tuple #[v, .bool (unlOk 44 l)]) ∧ ReadRow w' w.heap.size v (unlOk 44 l) (unlN 44 l)) ∧ Below w.heap.size w w' := by
  have := rUnlist_any ⟨l.toArray⟩ 44 w (by show l.toArray.size < _; simp; omega)
  simpa using this
theorem strs_five {w : World} {p : Option Addr} {a b c d e : List UInt8} (h : Strs w p [a, b, c, d, e]) : ∃ pb po, p = some ⟨pb, po, none⟩ ∧ Five w pb po a b c d e := by
  obtain ⟨pb, po, rfl, c0⟩ := h 0 (by simp)
  have g : ∀ i (hi : i < [a, b, c, d, e].length), w.cell? ⟨pb, po + i, none⟩ = some (strV [a, b, c, d, e][i]) := fun i hi => by
    obtain ⟨b', o', e', c'⟩ := h i hi
    simp only [Option.some.injEq, Addr.mk.injEq, and_true] at e'
    obtain ⟨rfl, rfl⟩ := e'
    exact c'
  exact ⟨pb, po, rfl, c0, g 1 (by simp), g 2 (by simp), g 3 (by simp), g 4 (by simp)⟩
theorem Five.below {w w' : World} {pb po : Nat} {a b c d e : List UInt8} (h : Five w pb po a b c d e) (hb : Below w.heap.size w w') : Five w' pb po a b c d e :=
  ⟨cell_kept hb h.1, cell_kept hb h.2.1, cell_kept hb h.2.2.1, cell_kept hb h.2.2.2.1, cell_kept hb h.2.2.2.2⟩
theorem Five.mid {w : World} {pb po : Nat} {a b c d e : List UInt8} (h : Five w pb po a b c d e) : Strs w (some ⟨pb, po + 1, none⟩) [b, c, d] := fun i hi => by
  refine ⟨pb, po + 1, rfl, ?_⟩
  match i, hi with
  | 0, _ => exact h.2.1
  | 1, _ => exact h.2.2.1
  | 2, _ => exact h.2.2.2.1
theorem rNums3 (pb po c0 : Nat) (a b c d e : List UInt8) (w : World) (h : Five w pb po a b c d e) (hb : b.length ≤ 100000) (hc : c.length ≤ 100000) (hd : d.length ≤ 100000) :
    Calls Tryz.prog 60 #[.slice (some ⟨pb, po + 1, none⟩) 3 c0] w fun r w' => (∃ v, r = .returned (.tuple #[v, .bool (allNum [b, c, d])]) ∧ ReadRow w' w.heap.size v (allNum [b, c, d]) [numR b, numR c, numR d]) ∧ Below w.heap.size w w' := by
  refine (rNumbersOf_any (some ⟨pb, po + 1, none⟩) [b, c, d] 3 c0 w h.mid rfl (by simp) (by intro l hl; simp at hl; unfold maxLen; rcases hl with rfl | rfl | rfl <;> omega)).mono ?_
  rintro r w' ⟨⟨v, rfl, hv⟩, hb'⟩
  refine ⟨⟨v, rfl, ?_⟩, hb'⟩
  rcases hv with ⟨x, y⟩ | ⟨x, y⟩
  · exact .inl ⟨x, y⟩
  · exact .inr ⟨x, y⟩
theorem ReadRow.row {w : World} {B : Nat} {v : Value} {N : List Int} (h : ReadRow w B v true N) : ∃ p c, v = .slice p N.length c ∧ Kind1 p N.length c ∧ Ints w p N ∧ ∀ b o, p = some ⟨b, o, none⟩ → B ≤ b := by
  rcases h with ⟨-, h⟩ | ⟨h, -⟩
  · exact own_kind' h
  · cases h
/-- the words' three truths, and what they make. -/
theorem ok_parts (a b c d e : List UInt8) : wordsOk [a, b, c, d, e] = ((unlOk 45 a && unlOk 44 e) && allNum [b, c, d]) := rfl
theorem cells_three {w : World} {p : Option Addr} {x y z : Int} (h : Ints w p [x, y, z]) : ∃ b o, p = some ⟨b, o, none⟩ ∧ w.cell? ⟨b, o, none⟩ = some (.int .i64 x) ∧ w.cell? ⟨b, o + 1, none⟩ = some (.int .i64 y) ∧ w.cell? ⟨b, o + 2, none⟩ = some (.int .i64 z) := by
  obtain ⟨pb, po, rfl, c0⟩ := h 0 (by simp)
  have g : ∀ i (hi : i < [x, y, z].length), w.cell? ⟨pb, po + i, none⟩ = some (.int .i64 [x, y, z][i]) := fun i hi => by
    obtain ⟨b', o', e', c'⟩ := h i hi
    simp only [Option.some.injEq, Addr.mk.injEq, and_true] at e'
    obtain ⟨rfl, rfl⟩ := e'
    exact c'
  exact ⟨pb, po, rfl, c0, g 1 (by simp), g 2 (by simp)⟩
set_option linter.unusedSimpArgs false in
set_option linter.unusedVariables false in
set_option maxRecDepth 100000 in
set_option maxHeartbeats 8000000 in
theorem rReadAttr_less (l : List UInt8) (w : World) (hs0 : l.length ≤ 100000) (h5 : (parts 32 [] l).length ≠ 5) :
    Calls Tryz.prog 21 #[.string ⟨l.toArray⟩] w fun r w' => (∃ v, r = .returned (.tuple #[v, .int .i64 (readC l)]) ∧ AttrF w' v (readA l) w.heap.size) ∧ Below w.heap.size w w' := by
  obtain ⟨B, hB⟩ : ∃ B, Hid (w.heap.size = B) := ⟨_, show _ = _ from rfl⟩
  obtain ⟨HP0⟩ : Nonempty (Hid (RP w (w.alloc (.cells #[.slice none 0 0, .int .i64 0, .int .i64 0, .int .i64 0, .slice none 0 0] 24)) B)) := ⟨by rw [← hB.out]; exact ⟨Go.heap_alloc_new w _, below_alloc _ _, by simp⟩⟩
  obtain ⟨HC⟩ : Nonempty (Hid (Calls _ _ _ _ _)) := ⟨rCutL l (w.alloc (.cells #[.slice none 0 0, .int .i64 0, .int .i64 0, .int .i64 0, .slice none 0 0] 24)) hs0⟩
  have h5' : (((parts 32 [] l).length : Int) != 5) = true := by rw [bne_iff_ne]; omega
  have hpl := parts_length 32 [] l
  obtain ⟨HR1⟩ : Nonempty (Hid (readC l = 1 ∧ readA l = noneA)) := ⟨read_words l (words_five _ h5)⟩
  obtain ⟨rc, hrc⟩ : ∃ x, Hid (readC l = x) := ⟨_, show _ = _ from rfl⟩
  obtain ⟨ra, hra⟩ : ∃ x, Hid (readA l = x) := ⟨_, show _ = _ from rfl⟩
  rw [show readC l = rc from hrc.out, show readA l = ra from hra.out] at HR1 ⊢
  obtain ⟨L, hL⟩ : ∃ L, Hid (parts 32 [] l = L) := ⟨_, show _ = _ from rfl⟩
  rw [show parts 32 [] l = L from hL.out] at HC h5' hpl
  clear h5
  go_enter Tryz.func21, Tryz.ntmps21
  go_wp2_with fail
  refine HC.out.mono ?_
  rintro e w1 ⟨⟨v, rfl, hown⟩, hb1⟩
  obtain ⟨q, cap, rfl, -, -, -⟩ := own_strs hown
  obtain ⟨HP1⟩ : Nonempty (Hid (RP w w1 B)) := ⟨HP0.out.on hb1⟩
  rw [show w.heap.size = B from hB.out]
  clear hown hb1 HC HP0
  obtain ⟨r0, r1, r2, r3, r4⟩ := HP1.out.cells
  have y0 := HP1.out.soft 0
  have y1 := HP1.out.soft 1
  have y2 := HP1.out.soft 2
  have y3 := HP1.out.soft 3
  have y4 := HP1.out.soft 4
  go_wp2_with fail
  refine bodyPost_ret (v := .tuple #[.agg #[.slice none 0 0, .int .i64 0, .int .i64 0, .int .i64 0, .slice none 0 0], .int .i64 1]) (by simp [results, Tryz.results21, go_sem, r0, r1, r2, r3, r4]) rfl ⟨⟨_, by rw [HR1.out.1], by rw [HR1.out.2]; exact attrF_none _ _⟩, ?_⟩
  have := HP1.out.2.1.trans ((five_kept' w1 B (.slice none 0 0) (.int .i64 0) (.int .i64 0) (.int .i64 0) (.slice none 0 0)).below (Nat.le_of_lt HP1.out.2.2) (by simp))
  first | exact this | (rw [show w.heap.size = B from hB.out]; exact this)
set_option linter.unusedSimpArgs false in
set_option linter.unusedVariables false in
set_option maxRecDepth 100000 in
set_option maxHeartbeats 8000000 in
theorem rReadAttr_five (l : List UInt8) (w : World) (hs0 : l.length ≤ 100000) (a b c d e : List UInt8) (hp : parts 32 [] l = [a, b, c, d, e]) :
    Calls Tryz.prog 21 #[.string ⟨l.toArray⟩] w fun r w' => (∃ v, r = .returned (.tuple #[v, .int .i64 (readC l)]) ∧ AttrF w' v (readA l) w.heap.size) ∧ Below w.heap.size w w' := by
  obtain ⟨B, hB⟩ : ∃ B, Hid (w.heap.size = B) := ⟨_, show _ = _ from rfl⟩
  obtain ⟨HP0⟩ : Nonempty (Hid (RP w (w.alloc (.cells #[.slice none 0 0, .int .i64 0, .int .i64 0, .int .i64 0, .slice none 0 0] 24)) B)) := ⟨by rw [← hB.out]; exact ⟨Go.heap_alloc_new w _, below_alloc _ _, by simp⟩⟩
  obtain ⟨HC⟩ : Nonempty (Hid (Calls _ _ _ _ _)) := ⟨rCutL l (w.alloc (.cells #[.slice none 0 0, .int .i64 0, .int .i64 0, .int .i64 0, .slice none 0 0] 24)) hs0⟩
  rw [hp] at HC
  have hlen : ∀ x ∈ parts 32 [] l, x.length ≤ l.length := fun x hx => by have := parts_short 32 [] l x hx; simpa using this
  rw [hp] at hlen
  obtain ⟨HL⟩ : Nonempty (Hid (a.length ≤ l.length ∧ b.length ≤ l.length ∧ c.length ≤ l.length ∧ d.length ≤ l.length ∧ e.length ≤ l.length)) := ⟨⟨hlen a (by simp), hlen b (by simp), hlen c (by simp), hlen d (by simp), hlen e (by simp)⟩⟩
  obtain ⟨HRD⟩ : Nonempty (Hid ((((unlOk 45 a && unlOk 44 e) && allNum [b, c, d]) = false → readC l = 1 ∧ readA l = noneA) ∧ (((unlOk 45 a && unlOk 44 e) && allNum [b, c, d]) = true → readC l = (faultA ⟨unlN 45 a, numR b, numR c, numR d, unlN 44 e⟩).1 ∧ readA l = if (faultA ⟨unlN 45 a, numR b, numR c, numR d, unlN 44 e⟩).1 = 0 then ⟨unlN 45 a, numR b, numR c, numR d, unlN 44 e⟩ else noneA))) := ⟨by
    constructor
    · intro h; exact read_words l (by rw [hp, ok_parts]; exact h)
    · intro h
      have := read_ok (l := l) (by rw [hp, ok_parts]; exact h)
      rw [hp] at this
      exact this⟩
  obtain ⟨rc, hrc⟩ : ∃ x, Hid (readC l = x) := ⟨_, show _ = _ from rfl⟩
  obtain ⟨ra, hra⟩ : ∃ x, Hid (readA l = x) := ⟨_, show _ = _ from rfl⟩
  rw [show readC l = rc from hrc.out, show readA l = ra from hra.out] at HRD ⊢
  obtain ⟨HNL⟩ : Nonempty (Hid ((unlN 45 a).length ≤ 1000000 ∧ (unlN 44 e).length ≤ 1000000)) := ⟨by
    have f : ∀ c x, (unlN c x).length ≤ x.length + 1 := fun c x => by
      unfold unlN
      split
      · simp
      · rw [List.length_map]; exact (parts_length c [] x).2
    have f1 := f 45 a
    have f2 := f 44 e
    have := HL.out
    exact ⟨by omega, by omega⟩⟩
  obtain ⟨H1⟩ : Nonempty (Hid (∀ W, Calls _ _ _ _ _)) := ⟨fun W => rUnl45 a W (by have := HL.out; omega)⟩
  obtain ⟨H2⟩ : Nonempty (Hid (∀ W, Calls _ _ _ _ _)) := ⟨fun W => rUnl44 e W (by have := HL.out; omega)⟩
  obtain ⟨H3⟩ : Nonempty (Hid (∀ pb po c0 W, Five W pb po a b c d e → Calls _ _ _ _ _)) := ⟨fun pb po c0 W h => rNums3 pb po c0 a b c d e W h (by have := HL.out; omega) (by have := HL.out; omega) (by have := HL.out; omega)⟩
  obtain ⟨u1, hu1⟩ : ∃ x, Hid (unlOk 45 a = x) := ⟨_, show _ = _ from rfl⟩
  obtain ⟨u2, hu2⟩ : ∃ x, Hid (unlOk 44 e = x) := ⟨_, show _ = _ from rfl⟩
  obtain ⟨u3, hu3⟩ : ∃ x, Hid (allNum [b, c, d] = x) := ⟨_, show _ = _ from rfl⟩
  obtain ⟨N1, hN1⟩ : ∃ x, Hid (unlN 45 a = x) := ⟨_, show _ = _ from rfl⟩
  obtain ⟨N2, hN2⟩ : ∃ x, Hid (unlN 44 e = x) := ⟨_, show _ = _ from rfl⟩
  obtain ⟨n0, hn0⟩ : ∃ x, Hid (numR b = x) := ⟨_, show _ = _ from rfl⟩
  obtain ⟨n1, hn1⟩ : ∃ x, Hid (numR c = x) := ⟨_, show _ = _ from rfl⟩
  obtain ⟨n2, hn2⟩ : ∃ x, Hid (numR d = x) := ⟨_, show _ = _ from rfl⟩
  rw [show unlOk 45 a = u1 from hu1.out, show unlN 45 a = N1 from hN1.out] at H1
  rw [show unlOk 44 e = u2 from hu2.out, show unlN 44 e = N2 from hN2.out] at H2
  rw [show allNum [b, c, d] = u3 from hu3.out, show numR b = n0 from hn0.out, show numR c = n1 from hn1.out, show numR d = n2 from hn2.out] at H3
  rw [show unlOk 45 a = u1 from hu1.out, show unlOk 44 e = u2 from hu2.out, show allNum [b, c, d] = u3 from hu3.out, show unlN 45 a = N1 from hN1.out, show unlN 44 e = N2 from hN2.out, show numR b = n0 from hn0.out, show numR c = n1 from hn1.out, show numR d = n2 from hn2.out] at HRD
  rw [show unlN 45 a = N1 from hN1.out, show unlN 44 e = N2 from hN2.out] at HNL
  clear hp hlen hs0
  go_enter Tryz.func21, Tryz.ntmps21
  go_wp2_with fail
  refine HC.out.mono ?_
  rintro e0 w1 ⟨⟨v, rfl, hown⟩, hb1⟩
  obtain ⟨q, cap, rfl, hcap, hcap2, hq⟩ := own_strs hown
  obtain ⟨pb, po, rfl, h5⟩ := strs_five hq
  obtain ⟨HP1⟩ : Nonempty (Hid (RP w w1 B ∧ Five w1 pb po a b c d e)) := ⟨⟨HP0.out.on hb1, h5⟩⟩
  rw [show w.heap.size = B from hB.out]
  simp only [List.length_cons, List.length_nil, Nat.zero_add, Nat.reduceAdd] at hcap ⊢
  clear hown hb1 HC HP0 hq h5
  obtain ⟨c0, -, -, -, -⟩ := HP1.out.2
  go_wp2_with fail
  refine (H1.out _).mono ?_
  rintro e1 w2 ⟨⟨v1, rfl, hv1⟩, hb2⟩
  obtain ⟨HP2⟩ : Nonempty (Hid ((RP w w2 B ∧ Five w2 pb po a b c d e) ∧ ReadRow w2 w1.heap.size v1 u1 N1 ∧ B < w1.heap.size)) := ⟨⟨⟨HP1.out.1.on hb2, HP1.out.2.below hb2⟩, hv1, HP1.out.1.2.2⟩⟩
  clear hb2 hv1 HP1 c0 H1
  obtain ⟨-, -, -, -, c4⟩ := HP2.out.1.2
  go_wp2_with fail
  refine (H2.out _).mono ?_
  rintro e1 w3 ⟨⟨v2, rfl, hv2⟩, hb3⟩
  obtain ⟨HP3⟩ : Nonempty (Hid ((RP w w3 B ∧ Five w3 pb po a b c d e) ∧ ReadRow w3 w1.heap.size v1 u1 N1 ∧ ReadRow w3 w2.heap.size v2 u2 N2 ∧ B < w1.heap.size ∧ B < w2.heap.size)) := ⟨⟨⟨HP2.out.1.1.on hb3, HP2.out.1.2.below hb3⟩, HP2.out.2.1.below hb3, hv2, HP2.out.2.2, HP2.out.1.1.2.2⟩⟩
  clear hb3 hv2 HP2 c4 H2
  go_wp2_with fail
  refine (H3.out pb po _ w3 HP3.out.1.2).mono ?_
  rintro e1 w4 ⟨⟨v3, rfl, hv3⟩, hb4⟩
  obtain ⟨HP4⟩ : Nonempty (Hid (RP w w4 B ∧ ReadRow w4 w1.heap.size v1 u1 N1 ∧ ReadRow w4 w2.heap.size v2 u2 N2 ∧ ReadRow w4 w3.heap.size v3 u3 [n0, n1, n2] ∧ B < w1.heap.size ∧ B < w2.heap.size)) := ⟨⟨HP3.out.1.1.on hb4, HP3.out.2.1.below hb4, HP3.out.2.2.1.below hb4, hv3, HP3.out.2.2.2.1, HP3.out.2.2.2.2⟩⟩
  clear hb4 hv3 HP3 H3
  obtain ⟨x1, hx1⟩ : ∃ x, Hid (w1.heap.size = x) := ⟨_, show _ = _ from rfl⟩
  obtain ⟨x2, hx2⟩ : ∃ x, Hid (w2.heap.size = x) := ⟨_, show _ = _ from rfl⟩
  rw [show w1.heap.size = x1 from hx1.out, show w2.heap.size = x2 from hx2.out] at HP4
  have cases3 : u1 = false ∨ (u1 = true ∧ u2 = false) ∨ (u1 = true ∧ u2 = true ∧ u3 = false) ∨ (u1 = true ∧ u2 = true ∧ u3 = true) := by cases u1 <;> cases u2 <;> cases u3 <;> simp
  rcases cases3 with rfl | ⟨rfl, rfl⟩ | ⟨rfl, rfl, rfl⟩ | ⟨rfl, rfl, rfl⟩
  iterate 3
    · obtain ⟨HR1⟩ : Nonempty (Hid (rc = 1 ∧ ra = noneA)) := ⟨HRD.out.1 (by first | rfl | simp)⟩
      obtain ⟨r0, r1, r2, r3, r4⟩ := HP4.out.1.cells
      have y0 := HP4.out.1.soft 0
      have y1 := HP4.out.1.soft 1
      have y2 := HP4.out.1.soft 2
      have y3 := HP4.out.1.soft 3
      have y4 := HP4.out.1.soft 4
      go_wp2_with fail
      refine bodyPost_ret (v := .tuple #[.agg #[.slice none 0 0, .int .i64 0, .int .i64 0, .int .i64 0, .slice none 0 0], .int .i64 1]) (by simp [results, Tryz.results21, go_sem, r0, r1, r2, r3, r4]) rfl ⟨⟨_, by rw [HR1.out.1], by rw [HR1.out.2]; exact attrF_none _ _⟩, ?_⟩
      have := HP4.out.1.2.1.trans ((five_kept' w4 B (.slice none 0 0) (.int .i64 0) (.int .i64 0) (.int .i64 0) (.slice none 0 0)).below (Nat.le_of_lt HP4.out.1.2.2) (by simp))
      first | exact this | (rw [show w.heap.size = B from hB.out]; exact this)
  · obtain ⟨HR1⟩ : Nonempty (Hid (rc = (faultA ⟨N1, n0, n1, n2, N2⟩).1 ∧ ra = if (faultA ⟨N1, n0, n1, n2, N2⟩).1 = 0 then ⟨N1, n0, n1, n2, N2⟩ else noneA)) := ⟨HRD.out.2 rfl⟩
    obtain ⟨p1, c1, rfl, k1, i1, b1⟩ := HP4.out.2.1.row
    obtain ⟨p2, c2, rfl, k2, i2, b2⟩ := HP4.out.2.2.1.row
    obtain ⟨p3, c3, rfl, k3, i3, b3⟩ := HP4.out.2.2.2.1.row
    obtain ⟨gb, go, rfl, g0, g1, g2⟩ := cells_three i3
    obtain ⟨HQ4⟩ : Nonempty (Hid (RP w w4 B ∧ (Ints w4 p1 N1 ∧ Ints w4 p2 N2 ∧ Kind1 p1 N1.length c1 ∧ Kind1 p2 N2.length c2) ∧ (∀ b o, p1 = some ⟨b, o, none⟩ → B < b) ∧ (∀ b o, p2 = some ⟨b, o, none⟩ → B < b))) := ⟨⟨HP4.out.1, ⟨i1, i2, k1, k2⟩, fun b o e => by have := b1 b o e; have := HP4.out.2.2.2.2.1; omega, fun b o e => by have := b2 b o e; have := HP4.out.2.2.2.2.2; omega⟩⟩
    obtain ⟨HG⟩ : Nonempty (Hid (∀ W, Below w4.heap.size w4 W → (fun w' => w'.cell? ⟨gb, go, none⟩ = some (.int .i64 n0) ∧ w'.cell? ⟨gb, go + 1, none⟩ = some (.int .i64 n1) ∧ w'.cell? ⟨gb, go + 2, none⟩ = some (.int .i64 n2)) W)) := ⟨fun W hb => ⟨cell_kept hb g0, cell_kept hb g1, cell_kept hb g2⟩⟩
    obtain ⟨f0, hf0⟩ : ∃ x, Hid ((faultA ⟨N1, n0, n1, n2, N2⟩).1 = x) := ⟨_, show _ = _ from rfl⟩
    obtain ⟨f1, hf1⟩ : ∃ x, Hid ((faultA ⟨N1, n0, n1, n2, N2⟩).2 = x) := ⟨_, show _ = _ from rfl⟩
    have HF : Hid (faultA ⟨N1, n0, n1, n2, N2⟩ = (f0, f1)) := by show _ = _; rw [← hf0.out, ← hf1.out]
    have hsg := fault_sign ⟨N1, n0, n1, n2, N2⟩
    rw [show (faultA ⟨N1, n0, n1, n2, N2⟩).1 = f0 from hf0.out] at HR1 hsg
    clear i1 i2 i3 k1 k2 k3 b1 b2 b3 HP4 HRD g0 g1 g2
    obtain ⟨X, hX⟩ : ∃ X, Hid (w4.heap.size = X) := ⟨_, show _ = _ from rfl⟩
    obtain ⟨W5, hW5⟩ : ∃ W, Hid (((((((w4.alloc (.cells #[.slice none 0 0, .int .i64 0, .int .i64 0, .int .i64 0, .slice none 0 0] 24)).setCell ⟨X, 0, none⟩ (.slice p1 N1.length c1)).setCell ⟨X, 1, none⟩ (.int .i64 n0)).setCell ⟨X, 2, none⟩ (.int .i64 n1)).setCell ⟨X, 3, none⟩ (.int .i64 n2)).setCell ⟨X, 4, none⟩ (.slice p2 N2.length c2)).drew = W) := ⟨_, show _ = _ from rfl⟩
    obtain ⟨H5⟩ : Nonempty (Hid (Below X w4 W5 ∧ RY W5 X #[.slice p1 N1.length c1, .int .i64 n0, .int .i64 n1, .int .i64 n2, .slice p2 N2.length c2] ∧ AttrK W5 (.agg #[.slice p1 N1.length c1, .int .i64 n0, .int .i64 n1, .int .i64 n2, .slice p2 N2.length c2]) ⟨N1, n0, n1, n2, N2⟩)) := ⟨by
      rw [← show w4.heap.size = X from hX.out] at hW5 ⊢
      have hz := zero_store (w := w4) (Go.heap_alloc_new w4 (.cells #[.slice none 0 0, .int .i64 0, .int .i64 0, .int .i64 0, .slice none 0 0] 24)) (below_alloc _ _) (by simp) _ _ _ _ _ hW5.out
      exact ⟨hz.2, hz.1, p1, c1, p2, c2, rfl, HQ4.out.2.1.1.below hz.2, HQ4.out.2.1.2.1.below hz.2, HQ4.out.2.1.2.2.1, HQ4.out.2.1.2.2.2⟩⟩
    obtain ⟨HP5⟩ : Nonempty (Hid (RP w W5 B)) := ⟨HQ4.out.1.on (by rw [show w4.heap.size = X from hX.out]; exact H5.out.1)⟩
    go_upto_region 9 with fail
    refine wp_region_noPanic ?_
    refine wp_region_held_drew (S := (fun w' => w'.cell? ⟨gb, go, none⟩ = some (.int .i64 n0) ∧ w'.cell? ⟨gb, go + 1, none⟩ = some (.int .i64 n1) ∧ w'.cell? ⟨gb, go + 2, none⟩ = some (.int .i64 n2))) (by kernel_rfl) ?_ (fun hHeld => ?_)
    · exact HG.out _ (Below.refl _ _).drew
    refine wpAnyH_take (i := 0) (v := ?_) rfl (by kernel_rfl) (by kernel_rfl) (by kernel_rfl) (fun _ _ _ h => h) (Or.inl ⟨by rfl, ?_⟩) (by assumption) ?_
    rotate_left
    · (intro w hSw; (try dsimp only at hSw); go_simp; try (with_reducible rfl))
    try simp only [Act.put, List.setIfInBounds_toArray, List.set_cons_zero, List.set_cons_succ, List.getElem_toArray, List.getElem_cons_zero, List.getElem_cons_succ]
    refine wpAnyH_take (i := 1) (v := ?_) rfl (by kernel_rfl) (by kernel_rfl) (by kernel_rfl) (fun _ _ _ h => h) (Or.inl ⟨by rfl, ?_⟩) (by assumption) ?_
    rotate_left
    · (intro w hSw; (try dsimp only at hSw); go_simp; try (with_reducible rfl))
    try simp only [Act.put, List.setIfInBounds_toArray, List.set_cons_zero, List.set_cons_succ, List.getElem_toArray, List.getElem_cons_zero, List.getElem_cons_succ]
    refine wpAnyH_take (i := 2) (v := ?_) rfl (by kernel_rfl) (by kernel_rfl) (by kernel_rfl) (fun _ _ _ h => h) (Or.inl ⟨by rfl, ?_⟩) (by assumption) ?_
    rotate_left
    · (intro w hSw; (try dsimp only at hSw); go_simp; try (with_reducible rfl))
    try simp only [Act.put, List.setIfInBounds_toArray, List.set_cons_zero, List.set_cons_succ, List.getElem_toArray, List.getElem_cons_zero, List.getElem_cons_succ]
    refine wpAnyH_take (i := 3) (v := ?_) rfl (by kernel_rfl) (by kernel_rfl) (by kernel_rfl) (fun _ _ _ h => h) (Or.inl ⟨by rfl, ?_⟩) (by assumption) ?_
    rotate_left
    · (intro w hSw; (try dsimp only at hSw); go_simp; try (with_reducible rfl))
    try simp only [Act.put, List.setIfInBounds_toArray, List.set_cons_zero, List.set_cons_succ, List.getElem_toArray, List.getElem_cons_zero, List.getElem_cons_succ]
    refine wpAnyH_take (i := 4) (v := ?_) rfl (by kernel_rfl) (by kernel_rfl) (by kernel_rfl) (fun _ _ _ h => h) (Or.inl ⟨by rfl, ?_⟩) (by assumption) ?_
    rotate_left
    · (intro w hSw; (try dsimp only at hSw); go_simp; try (with_reducible rfl))
    try simp only [Act.put, List.setIfInBounds_toArray, List.set_cons_zero, List.set_cons_succ, List.getElem_toArray, List.getElem_cons_zero, List.getElem_cons_succ]
    refine wpAnyH_take (i := 5) (v := ?_) rfl (by kernel_rfl) (by kernel_rfl) (by kernel_rfl) (fun _ _ _ h => h) (Or.inl ⟨by rfl, ?_⟩) (by assumption) ?_
    rotate_left
    · (intro w hSw; (try dsimp only at hSw); go_simp; try (with_reducible rfl))
    try simp only [Act.put, List.setIfInBounds_toArray, List.set_cons_zero, List.set_cons_succ, List.getElem_toArray, List.getElem_cons_zero, List.getElem_cons_succ]
    refine wpAnyH_take (i := 6) (v := ?_) rfl (by kernel_rfl) (by kernel_rfl) (by kernel_rfl) (fun _ _ _ h => h) (Or.inl ⟨by rfl, ?_⟩) (by assumption) ?_
    rotate_left
    · (intro w hSw; (try dsimp only at hSw); go_simp; try (with_reducible rfl))
    try simp only [Act.put, List.setIfInBounds_toArray, List.set_cons_zero, List.set_cons_succ, List.getElem_toArray, List.getElem_cons_zero, List.getElem_cons_succ]
    refine wpAnyH_take (i := 7) (v := ?_) rfl (by kernel_rfl) (by kernel_rfl) (by kernel_rfl) (fun _ _ _ h => h) (Or.inl ⟨by rfl, ?_⟩) (by assumption) ?_
    rotate_left
    · (intro w hSw; (try dsimp only at hSw); go_simp; try (with_reducible rfl))
    try simp only [Act.put, List.setIfInBounds_toArray, List.set_cons_zero, List.set_cons_succ, List.getElem_toArray, List.getElem_cons_zero, List.getElem_cons_succ]
    refine wpAnyH_take (i := 8) (v := ?_) rfl (by kernel_rfl) (by kernel_rfl) (by kernel_rfl) (fun _ _ _ h => h) (Or.inl ⟨by rfl, ?_⟩) (by assumption) ?_
    rotate_left
    · (intro w hSw; (try dsimp only at hSw); go_simp; try (with_reducible rfl))
    try simp only [Act.put, List.setIfInBounds_toArray, List.set_cons_zero, List.set_cons_succ, List.getElem_toArray, List.getElem_cons_zero, List.getElem_cons_succ]
    refine wpAnyH_take (i := 9) (v := ?_) rfl (by kernel_rfl) (by kernel_rfl) (by kernel_rfl) (fun _ _ _ h => h) (Or.inl ⟨by rfl, ?_⟩) (by assumption) ?_
    rotate_left
    · (intro w hSw; (try dsimp only at hSw); go_simp; try (with_reducible rfl))
    try simp only [Act.put, List.setIfInBounds_toArray, List.set_cons_zero, List.set_cons_succ, List.getElem_toArray, List.getElem_cons_zero, List.getElem_cons_succ]
    refine wpAnyH_take (i := 10) (v := ?_) rfl (by kernel_rfl) (by kernel_rfl) (by kernel_rfl) (fun _ _ _ h => h) (Or.inl ⟨by rfl, ?_⟩) (by assumption) ?_
    rotate_left
    · (intro w hSw; (try dsimp only at hSw); go_simp; try (with_reducible rfl))
    try simp only [Act.put, List.setIfInBounds_toArray, List.set_cons_zero, List.set_cons_succ, List.getElem_toArray, List.getElem_cons_zero, List.getElem_cons_succ]
    refine wpAnyH_take (i := 11) (v := ?_) rfl (by kernel_rfl) (by kernel_rfl) (by kernel_rfl) (fun _ _ _ h => h) (Or.inl ⟨by rfl, ?_⟩) (by assumption) ?_
    rotate_left
    · (intro w hSw; (try dsimp only at hSw); go_simp; try (with_reducible rfl))
    try simp only [Act.put, List.setIfInBounds_toArray, List.set_cons_zero, List.set_cons_succ, List.getElem_toArray, List.getElem_cons_zero, List.getElem_cons_succ]
    refine wpAnyH_ready (rs := [12]) (by kernel_rfl) (by simp) ?_
    refine AllReadyH.cons rfl (fun K hK => ?_) AllReadyH.nil
    go_simp
    refine hK.out _ _ ?_ (fun hHeld => ?_)
    · exact HG.out _ (below_alloc w4 _).drew
    clear hK K
    try simp only [Act.put, List.setIfInBounds_toArray, List.set_cons_zero, List.set_cons_succ, List.getElem_toArray, List.getElem_cons_zero, List.getElem_cons_succ]
    rw [show w4.heap.size = X from hX.out]
    obtain ⟨WA, hWA⟩ : ∃ W, Hid (w4.alloc (.cells #[.slice none 0 0, .int .i64 0, .int .i64 0, .int .i64 0, .slice none 0 0] 24) = W) := ⟨_, show _ = _ from rfl⟩
    rw [show w4.alloc (.cells #[.slice none 0 0, .int .i64 0, .int .i64 0, .int .i64 0, .slice none 0 0] 24) = WA from hWA.out] at hW5 hHeld ⊢
    have hXA : RY WA X #[.slice none 0 0, .int .i64 0, .int .i64 0, .int .i64 0, .slice none 0 0] := by rw [← show w4.alloc (.cells #[.slice none 0 0, .int .i64 0, .int .i64 0, .int .i64 0, .slice none 0 0] 24) = WA from hWA.out, ← show w4.heap.size = X from hX.out]; exact Go.heap_alloc_new w4 _
    obtain ⟨s0, s1, s2, s3, s4⟩ := hXA.cells
    have z0 : WA.frozen? ⟨X, 0, none⟩ = false := by simp [World.frozen?, show WA.heap[X]? = _ from hXA]
    have z1 : WA.frozen? ⟨X, 1, none⟩ = false := by simp [World.frozen?, show WA.heap[X]? = _ from hXA]
    have z2 : WA.frozen? ⟨X, 2, none⟩ = false := by simp [World.frozen?, show WA.heap[X]? = _ from hXA]
    have z3 : WA.frozen? ⟨X, 3, none⟩ = false := by simp [World.frozen?, show WA.heap[X]? = _ from hXA]
    have z4 : WA.frozen? ⟨X, 4, none⟩ = false := by simp [World.frozen?, show WA.heap[X]? = _ from hXA]
    clear hXA
    refine wpAnyH_ready (rs := [13]) (by kernel_rfl) (by simp) ?_
    refine AllReadyH.cons rfl (fun K hK => ?_) AllReadyH.nil
    go_simp
    rw [show (((((WA.setCell ⟨X, 0, none⟩ (.slice p1 N1.length c1)).setCell ⟨X, 1, none⟩ (.int .i64 n0)).setCell ⟨X, 2, none⟩ (.int .i64 n1)).setCell ⟨X, 3, none⟩ (.int .i64 n2)).setCell ⟨X, 4, none⟩ (.slice p2 N2.length c2)).drew = W5 from hW5.out]
    refine hK.out _ _ ?_ (fun hHeld => ?_)
    · exact HG.out _ (by rw [show w4.heap.size = X from hX.out]; exact H5.out.1)
    clear hK K
    try simp only [Act.put, List.setIfInBounds_toArray, List.set_cons_zero, List.set_cons_succ, List.getElem_toArray, List.getElem_cons_zero, List.getElem_cons_succ]
    refine wpAnyH_done (by kernel_rfl) ?_ _
    refine NoPanic.normal ?_
    clear hHeld s0 s1 s2 s3 s4 z0 z1 z2 z3 z4 hW5 hWA HG
    obtain ⟨a0, a1, a2, a3, a4⟩ := H5.out.2.1.cells
    obtain ⟨HAF⟩ : Nonempty (Hid (Calls _ _ _ _ _)) := ⟨rAttrFault_any _ ⟨N1, n0, n1, n2, N2⟩ W5 H5.out.2.2.attr HNL.out.1 HNL.out.2 f0 f1 HF⟩
    clear HF hf0 hf1
    go_wp2_with fail
    refine HAF.out.mono ?_
    rintro e6 w6 ⟨rfl, hb6⟩
    obtain ⟨H6⟩ : Nonempty (Hid (RP w w6 B ∧ RY w6 X #[.slice p1 N1.length c1, .int .i64 n0, .int .i64 n1, .int .i64 n2, .slice p2 N2.length c2] ∧ AttrK w6 (.agg #[.slice p1 N1.length c1, .int .i64 n0, .int .i64 n1, .int .i64 n2, .slice p2 N2.length c2]) ⟨N1, n0, n1, n2, N2⟩)) := ⟨⟨HP5.out.on hb6, by unfold RY; rw [hb6.block X (Array.getElem?_eq_some_iff.1 H5.out.2.1).1]; exact H5.out.2.1, H5.out.2.2.below hb6⟩⟩
    obtain ⟨W7, hW7⟩ : ∃ W, Hid (w6.alloc (.cells #[.int .i64 f0, .int .i64 f1] 43) = W) := ⟨_, show _ = _ from rfl⟩
    obtain ⟨XF, hXF⟩ : ∃ W, Hid (w6.heap.size = W) := ⟨_, show _ = _ from rfl⟩
    obtain ⟨H7⟩ : Nonempty (Hid ((RP w W7 B ∧ RY W7 X #[.slice p1 N1.length c1, .int .i64 n0, .int .i64 n1, .int .i64 n2, .slice p2 N2.length c2] ∧ AttrK W7 (.agg #[.slice p1 N1.length c1, .int .i64 n0, .int .i64 n1, .int .i64 n2, .slice p2 N2.length c2]) ⟨N1, n0, n1, n2, N2⟩) ∧ W7.cell? ⟨XF, 0, none⟩ = some (.int .i64 f0) ∧ B < XF)) := ⟨by
      have hb7 := below_alloc w6 (.cells #[.int .i64 f0, .int .i64 f1] 43)
      have hc7 := box_at w6 (.int .i64 f0) (.int .i64 f1) 43
      rw [← show _ = W7 from hW7.out, ← show w6.heap.size = XF from hXF.out]
      exact ⟨⟨H6.out.1.on hb7, by unfold RY; rw [hb7.block X (Array.getElem?_eq_some_iff.1 H6.out.2.1).1]; exact H6.out.2.1, H6.out.2.2.below hb7⟩, hc7.1, H6.out.1.2.2⟩⟩
    clear hb6 HAF a0 a1 a2 a3 a4 H6 H5 HP5
    go_upto_region 11 with fail
    rw [show w6.alloc (.cells #[.int .i64 f0, .int .i64 f1] 43) = W7 from hW7.out, show w6.heap.size = XF from hXF.out]
    clear hW7 hXF
    have cf := H7.out.2.1
    obtain ⟨a0, a1, a2, a3, a4⟩ := H7.out.1.2.1.cells
    obtain ⟨r0, r1, r2, r3, r4⟩ := H7.out.1.1.cells
    have y0 := H7.out.1.1.soft 0
    have y1 := H7.out.1.1.soft 1
    have y2 := H7.out.1.1.soft 2
    have y3 := H7.out.1.1.soft 3
    have y4 := H7.out.1.1.soft 4
    rcases hsg with hf | hf
    · have hd : decide (f0 > 0) = false := decide_eq_false (by omega)
      obtain ⟨HR2⟩ : Nonempty (Hid (rc = 0 ∧ ra = ⟨N1, n0, n1, n2, N2⟩)) := ⟨⟨by rw [HR1.out.1, hf], by rw [HR1.out.2, if_pos hf]⟩⟩
      subst hf
      go_wp2_with fail
      have hbk := five_kept' W7 B (.slice p1 N1.length c1) (.int .i64 n0) (.int .i64 n1) (.int .i64 n2) (.slice p2 N2.length c2)
      obtain ⟨p', cp', q', cq', e', i1, i2, k1, k2⟩ := H7.out.1.2.2
      simp only [Value.agg.injEq, Array.mk.injEq, List.cons.injEq, Value.slice.injEq, and_true, true_and] at e'
      obtain ⟨⟨rfl, rfl⟩, rfl, rfl⟩ := e'
      refine bodyPost_ret (v := .tuple #[.agg #[.slice p1 N1.length c1, .int .i64 n0, .int .i64 n1, .int .i64 n2, .slice p2 N2.length c2], .int .i64 0]) (by simp [results, Tryz.results21, go_sem, r0, r1, r2, r3, r4]) rfl ⟨⟨_, by rw [HR2.out.1], by rw [HR2.out.2]; exact ⟨p1, c1, p2, c2, rfl, i1.kept hbk (fun b o e => by have := HQ4.out.2.2.1 b o e; simp; omega), i2.kept hbk (fun b o e => by have := HQ4.out.2.2.2 b o e; simp; omega), k1, k2, fun b o e => by have := HQ4.out.2.2.1 b o e; have := hB.out; omega, fun b o e => by have := HQ4.out.2.2.2 b o e; have := hB.out; omega⟩⟩, ?_⟩
      have := H7.out.1.1.2.1.trans (hbk.below (Nat.le_of_lt H7.out.1.1.2.2) (by simp))
      first | exact this | (rw [show w.heap.size = B from hB.out]; exact this)
    · have hd : decide (f0 > 0) = true := decide_eq_true (by omega)
      obtain ⟨HR2⟩ : Nonempty (Hid (rc = f0 ∧ ra = noneA)) := ⟨⟨HR1.out.1, by rw [HR1.out.2, if_neg (by omega)]⟩⟩
      go_upto_region 12 with fail
      obtain ⟨wf, hwf⟩ : ∃ x, Hid ((((((W7.setCell ⟨B, 0, none⟩ (.slice none 0 0)).setCell ⟨B, 1, none⟩ (.int .i64 0)).setCell ⟨B, 2, none⟩ (.int .i64 0)).setCell ⟨B, 3, none⟩ (.int .i64 0)).setCell ⟨B, 4, none⟩ (.slice none 0 0)).drew = x) := ⟨_, show _ = _ from rfl⟩
      obtain ⟨HWF⟩ : Nonempty (Hid (RY wf B #[.slice none 0 0, .int .i64 0, .int .i64 0, .int .i64 0, .slice none 0 0] ∧ Below B w wf)) := ⟨zero_store H7.out.1.1.1 H7.out.1.1.2.1 H7.out.1.1.2.2 _ _ _ _ _ hwf.out⟩
      obtain ⟨HCF⟩ : Nonempty (Hid (wf.cell? ⟨XF, 0, none⟩ = some (.int .i64 f0))) := ⟨by
        have := (five_kept' W7 B (.slice none 0 0) (.int .i64 0) (.int .i64 0) (.int .i64 0) (.slice none 0 0)).cell H7.out.2.1 (by have := H7.out.2.2; simp; omega)
        rw [← show _ = wf from hwf.out]; exact this⟩
      refine wp_region_noPanic ?_
      refine wp_region_held_drew (S := (fun w' => w'.cell? ⟨XF, 0, none⟩ = some (.int .i64 f0))) (by kernel_rfl) ?_ (fun hHeld => ?_)
      · exact H7.out.2.1
      refine wpAnyH_take (i := 0) (v := ?_) rfl (by kernel_rfl) (by kernel_rfl) (by kernel_rfl) (fun _ _ _ h => h) (Or.inl ⟨by rfl, ?_⟩) (by assumption) ?_
      rotate_left
      · (intro w hSw; (try dsimp only at hSw); go_simp; try (with_reducible rfl))
      try simp only [Act.put, List.setIfInBounds_toArray, List.set_cons_zero, List.set_cons_succ, List.getElem_toArray, List.getElem_cons_zero, List.getElem_cons_succ]
      refine wpAnyH_take (i := 1) (v := ?_) rfl (by kernel_rfl) (by kernel_rfl) (by kernel_rfl) (fun _ _ _ h => h) (Or.inl ⟨by rfl, ?_⟩) (by assumption) ?_
      rotate_left
      · (intro w hSw; (try dsimp only at hSw); go_simp; try (with_reducible rfl))
      try simp only [Act.put, List.setIfInBounds_toArray, List.set_cons_zero, List.set_cons_succ, List.getElem_toArray, List.getElem_cons_zero, List.getElem_cons_succ]
      refine wpAnyH_take (i := 2) (v := ?_) rfl (by kernel_rfl) (by kernel_rfl) (by kernel_rfl) (fun _ _ _ h => h) (Or.inl ⟨by rfl, ?_⟩) (by assumption) ?_
      rotate_left
      · (intro w hSw; (try dsimp only at hSw); go_simp; try (with_reducible rfl))
      try simp only [Act.put, List.setIfInBounds_toArray, List.set_cons_zero, List.set_cons_succ, List.getElem_toArray, List.getElem_cons_zero, List.getElem_cons_succ]
      refine wpAnyH_ready (rs := [3]) (by kernel_rfl) (by simp) ?_
      refine AllReadyH.cons rfl (fun K hK => ?_) AllReadyH.nil
      go_simp
      rw [show (((((W7.setCell ⟨B, 0, none⟩ (.slice none 0 0)).setCell ⟨B, 1, none⟩ (.int .i64 0)).setCell ⟨B, 2, none⟩ (.int .i64 0)).setCell ⟨B, 3, none⟩ (.int .i64 0)).setCell ⟨B, 4, none⟩ (.slice none 0 0)).drew = wf from hwf.out]
      refine hK.out _ _ ?_ (fun hHeld => ?_)
      · exact HCF.out
      clear hK K
      try simp only [Act.put, List.setIfInBounds_toArray, List.set_cons_zero, List.set_cons_succ, List.getElem_toArray, List.getElem_cons_zero, List.getElem_cons_succ]
      refine wpAnyH_take (i := 4) (v := ?_) rfl (by kernel_rfl) (by kernel_rfl) (by kernel_rfl) (fun _ _ _ h => h) (Or.inl ⟨by rfl, ?_⟩) (by assumption) ?_
      rotate_left
      · (intro w hSw; (try dsimp only at hSw); go_simp; try (with_reducible rfl))
      try simp only [Act.put, List.setIfInBounds_toArray, List.set_cons_zero, List.set_cons_succ, List.getElem_toArray, List.getElem_cons_zero, List.getElem_cons_succ]
      refine wpAnyH_done (by kernel_rfl) ?_ _
      refine NoPanic.normal ?_
      clear hHeld r0 r1 r2 r3 r4 y0 y1 y2 y3 y4 a0 a1 a2 a3 a4 cf
      go_wp2_with fail
      obtain ⟨g0, g1, g2, g3, g4⟩ := HWF.out.1.cells
      refine bodyPost_ret (v := .tuple #[.agg #[.slice none 0 0, .int .i64 0, .int .i64 0, .int .i64 0, .slice none 0 0], .int .i64 f0]) (by simp [results, Tryz.results21, go_sem, g0, g1, g2, g3, g4]) rfl ⟨⟨_, by rw [HR2.out.1], by rw [HR2.out.2]; exact attrF_none _ _⟩, ?_⟩
      first | exact HWF.out.2 | (rw [show w.heap.size = B from hB.out]; exact HWF.out.2)
theorem rReadAttr_own (l : List UInt8) (w : World) (hs0 : l.length ≤ 100000) :
    Calls Tryz.prog 21 #[.string ⟨l.toArray⟩] w fun r w' => (∃ v, r = .returned (.tuple #[v, .int .i64 (readC l)]) ∧ AttrF w' v (readA l) w.heap.size) ∧ Below w.heap.size w w' := by
  by_cases h5 : (parts 32 [] l).length = 5
  · obtain ⟨a, b, c, d, e, hp⟩ := five_words _ h5
    exact rReadAttr_five l w hs0 a b c d e hp
  · exact rReadAttr_less l w hs0 h5
theorem rReadAttr_any (l : List UInt8) (w : World) (hs0 : l.length ≤ 100000) :
    Calls Tryz.prog 21 #[.string ⟨l.toArray⟩] w fun r w' => (∃ v, r = .returned (.tuple #[v, .int .i64 (readC l)]) ∧ AttrK w' v (readA l)) ∧ Below w.heap.size w w' :=
  (rReadAttr_own l w hs0).mono fun _ _ ⟨⟨v, e, k⟩, b⟩ => ⟨⟨v, e, k.attrK⟩, b⟩
end Go.Proofs.YtbfdgflbflajdaaGreatDoor
