/-
  The document's TagOf and LeadOf: a tag put among the tags, a path led; where the rows of what they answer lie.
-/
import Derived.Test.YtbfdgflbflajdaaGreatDoorHD
namespace Go.Proofs.YtbfdgflbflajdaaGreatDoor
open Go.RowKit

theorem pos_le (T : List Int) (x : Int) : tagPos T x ≤ T.length := by unfold tagPos; exact List.countP_le_length
theorem pos_before {T : List Int} (h : T.Pairwise (· < ·)) (x : Int) (j : Nat) (hj : j < tagPos T x) : ∃ hl : j < T.length, T[j] < x := by
  have hl : j < T.length := by have := pos_le T x; omega
  refine ⟨hl, (pos_split h x).1 _ ?_⟩
  rw [List.mem_take_iff_getElem]
  exact ⟨j, by omega, rfl⟩
theorem pos_at {T : List Int} (h : T.Pairwise (· < ·)) (x : Int) (hl : tagPos T x < T.length) : x ≤ T[tagPos T x] := by
  apply (pos_split h x).2
  rw [List.mem_drop_iff_getElem]
  exact ⟨0, by omega, by simp⟩
theorem pos_has {T : List Int} (h : T.Pairwise (· < ·)) (x : Int) : T.contains x = true ↔ ∃ hl : tagPos T x < T.length, T[tagPos T x] = x := by
  rw [List.contains_iff_mem]
  constructor
  · intro hm
    rw [← List.take_append_drop (tagPos T x) T, List.mem_append] at hm
    rcases hm with hm | hm
    · have := (pos_split h x).1 x hm; omega
    · obtain ⟨i, hi, e⟩ := List.mem_drop_iff_getElem.1 hm
      have hl : tagPos T x < T.length := by omega
      refine ⟨hl, ?_⟩
      have h1 := pos_at h x hl
      cases i with
      | zero => simpa using e
      | succ i =>
        have := (List.pairwise_iff_getElem.1 h) (tagPos T x) (tagPos T x + (i + 1)) hl (by omega) (by omega)
        rw [e] at this
        omega
  · rintro ⟨hl, e⟩
    have := List.getElem_mem hl
    rw [e] at this
    exact this

set_option linter.unusedVariables false in
set_option maxRecDepth 100000 in
set_option maxHeartbeats 4000000 in
theorem rTagOf_bad (v : Value) (A : At) (x : Int) (w : World) (h : AttrK w v A) (h1 : A.path.length ≤ 1000000) (h2 : A.tags.length ≤ 1000000) (hf : 0 < (faultA A).1) :
    Calls Tryz.prog 25 #[v, .int .i64 x] w fun r w' => (∃ v', r = .returned (.tuple #[v', .int .i64 (tagC A x)]) ∧ AttrK w' v' noneA) ∧ Below w.heap.size w w' := by
  have e0 : tagC A x = (faultA A).1 := by unfold tagC; rw [if_pos hf]
  rw [e0]
  obtain ⟨f0, hf0⟩ : ∃ x, Hid ((faultA A).1 = x) := ⟨_, show _ = _ from rfl⟩
  obtain ⟨f1, hf1⟩ : ∃ x, Hid ((faultA A).2 = x) := ⟨_, show _ = _ from rfl⟩
  have HF : Hid (faultA A = (f0, f1)) := by show _ = _; rw [← hf0.out, ← hf1.out]
  have hpos : 0 < f0 := by rw [← hf0.out]; exact hf
  rw [show (faultA A).1 = f0 from hf0.out]
  have HC : Hid (∀ w', Below w.heap.size w w' → Calls _ _ _ _ _) := fun w' hb => rAttrFault_any v A w' (h.attr.below hb) h1 h2 f0 f1 HF
  obtain ⟨p, cp, q, cq, rfl, -, -, -, -⟩ := h
  obtain ⟨P, f, m, o, T⟩ := A
  simp only at *
  clear hf HF hf0 hf1 e0
  have hfd := field_code f0 f1
  go_enter Tryz.func25, Tryz.ntmps25
  go_wp2_with fail
  refine (HC.out _ (below_two _ _ _)).mono ?_
  rintro e w1 ⟨rfl, hb1⟩
  have hx := (ax_start w _ _).on hb1
  obtain ⟨HB1⟩ : Nonempty (Hid (Below w.heap.size w w1)) := ⟨hx.2.2⟩
  obtain ⟨r0, r1, r2, r3, r4⟩ := hx.res
  have y0 := (hx.soft 0).2
  have y1 := (hx.soft 1).2
  have y2 := (hx.soft 2).2
  have y3 := (hx.soft 3).2
  have y4 := (hx.soft 4).2
  clear hb1 HC hx
  go_wp2_with fail
  refine bodyPost_ret (v := .tuple #[.agg #[.slice none 0 0, .int .i64 0, .int .i64 0, .int .i64 0, .slice none 0 0], .int .i64 f0]) (by simp [results, Tryz.results25, go_sem, r0, r1, r2, r3, r4]) rfl ⟨⟨_, rfl, attrK_none _⟩, ?_⟩
  exact ((((HB1.out.setCell (by simp) _).setCell (by simp) _).setCell (by simp) _).setCell (by simp) _).setCell (by simp) _

set_option linter.unusedVariables false in
set_option maxRecDepth 100000 in
set_option maxHeartbeats 4000000 in
theorem rTagOf_bound (v : Value) (A : At) (x : Int) (w : World) (h : AttrK w v A) (hA : RightA A) (hb : x < 1 ∨ 9999 < x) :
    Calls Tryz.prog 25 #[v, .int .i64 x] w fun r w' => (∃ v', r = .returned (.tuple #[v', .int .i64 (tagC A x)]) ∧ AttrK w' v' noneA) ∧ Below w.heap.size w w' := by
  have HC : Hid (∀ w', Below w.heap.size w w' → Calls _ _ _ _ _) := fun w' hb => rAttrFault_any v A w' (h.attr.below hb) (by have := hA.path; omega) (by have := hA.tags; omega) 0 (-1) (fault_of_right hA)
  rw [tagC_bound hA hb]
  have g2 : decide (x < 1) = true ∨ (decide (x < 1) = false ∧ decide (9999 < x) = true) := by
    simp only [decide_eq_true_eq, decide_eq_false_iff_not]
    omega
  obtain ⟨p, cp, q, cq, rfl, -, -, -, -⟩ := h
  obtain ⟨P, f, m, o, T⟩ := A
  simp only at *
  clear hA hb
  have hfd := field_code 0 (-1)
  rcases g2 with g1 | ⟨g1, g2⟩
  all_goals
    go_enter Tryz.func25, Tryz.ntmps25
    go_wp2_with fail
    refine (HC.out _ (below_two _ _ _)).mono ?_
    rintro e w1 ⟨rfl, hb1⟩
    have hx := (ax_start w _ _).on hb1
    obtain ⟨HB1⟩ : Nonempty (Hid (Below w.heap.size w w1)) := ⟨hx.2.2⟩
    obtain ⟨a0, a1, a2, a3, a4⟩ := hx.arg
    obtain ⟨r0, r1, r2, r3, r4⟩ := hx.res
    have y0 := (hx.soft 0).2
    have y1 := (hx.soft 1).2
    have y2 := (hx.soft 2).2
    have y3 := (hx.soft 3).2
    have y4 := (hx.soft 4).2
    clear hb1 HC hx
    go_wp2_with fail
    refine bodyPost_ret (v := .tuple #[.agg #[.slice none 0 0, .int .i64 0, .int .i64 0, .int .i64 0, .slice none 0 0], .int .i64 2]) (by simp [results, Tryz.results25, go_sem, r0, r1, r2, r3, r4]) rfl ⟨⟨_, rfl, attrK_none _⟩, ?_⟩
    exact ((((HB1.out.setCell (by simp) _).setCell (by simp) _).setCell (by simp) _).setCell (by simp) _).setCell (by simp) _

/-- where a tag belongs, and what becomes of it. -/
def TagCase (A : At) (x : Int) (K : Nat) : Prop :=
  ((∃ hl : K < A.tags.length, A.tags[K] = x) ∧ tagC A x = 0 ∧ tagA A x = A) ∨
  (8 ≤ A.tags.length ∧ ((∃ hl : K < A.tags.length, x < A.tags[K]) ∨ K = A.tags.length) ∧ tagC A x = 7) ∨
  (A.tags.length < 8 ∧ ((∃ hl : K < A.tags.length, x < A.tags[K]) ∨ K = A.tags.length) ∧ tagC A x = 0 ∧ tagA A x = { A with tags := (A.tags.take K ++ [x]) ++ A.tags.drop K })
theorem tag_case {A : At} (hA : RightA A) {x : Int} (h : ¬ (x < 1 ∨ 9999 < x)) : TagCase A x (tagPos A.tags x) := by
  have hp := rise_pair hA.rise
  have hle := pos_le A.tags x
  cases hc : A.tags.contains x with
  | true =>
    obtain ⟨hl, e⟩ := (pos_has hp x).1 hc
    obtain ⟨a, b⟩ := tagC_there hA h hc
    exact .inl ⟨⟨hl, e⟩, a, b⟩
  | false =>
    have hx : (∃ hl : tagPos A.tags x < A.tags.length, x < A.tags[tagPos A.tags x]) ∨ tagPos A.tags x = A.tags.length := by
      by_cases hl : tagPos A.tags x < A.tags.length
      · refine .inl ⟨hl, ?_⟩
        have h1 := pos_at hp x hl
        have h2 : A.tags[tagPos A.tags x] ≠ x := fun e => by
          have := (pos_has hp x).2 ⟨hl, e⟩
          rw [hc] at this
          cases this
        omega
      · exact .inr (by omega)
    by_cases h8 : 8 ≤ A.tags.length
    · exact .inr (.inl ⟨h8, hx, tagC_full hA h hc h8⟩)
    · obtain ⟨a, b⟩ := tagC_new hA h hc h8
      refine .inr (.inr ⟨by omega, hx, a, ?_⟩)
      rw [b]
      simp
theorem ints_take {w : World} {p : Option Addr} {L : List Int} (h : Ints w p L) (k : Nat) : Ints w p (L.take k) := fun i hi => by
  have hk : i < L.length := by simp at hi; omega
  obtain ⟨b, o, e, c⟩ := h i hk
  exact ⟨b, o, e, by rw [c]; simp⟩
theorem ints_drop1 {w : World} {b o : Nat} {L : List Int} (h : Ints w (some ⟨b, o, none⟩) L) (k : Nat) : Ints w (some ⟨b, o + k, none⟩) (L.drop k) := fun i hi => by
  have hk : k + i < L.length := by simp at hi; omega
  obtain ⟨b', o', e, c⟩ := h (k + i) hk
  simp only [Option.some.injEq, Addr.mk.injEq, and_true] at e
  obtain ⟨rfl, rfl⟩ := e
  exact ⟨b, o + k, rfl, by rw [Nat.add_assoc, c]; simp⟩
/-- an attribute's value whose rows lie below Lo. -/
def AttrL (w : World) (v : Value) (A : At) (Lo : Nat) : Prop :=
  ∃ p cp q cq, v = .agg #[.slice p A.path.length cp, .int .i64 A.pref, .int .i64 A.med, .int .i64 A.org, .slice q A.tags.length cq] ∧ Ints w p A.path ∧ Ints w q A.tags ∧ Kind1 p A.path.length cp ∧ Kind1 q A.tags.length cq ∧ (∀ b o, p = some ⟨b, o, none⟩ → 0 < A.path.length → b < Lo) ∧ (∀ b o, q = some ⟨b, o, none⟩ → 0 < A.tags.length → b < Lo)
/-- an attribute's value whose rows lie below Lo, or from Hi on. -/
def AttrH (w : World) (v : Value) (A : At) (Lo Hi : Nat) : Prop :=
  ∃ p cp q cq, v = .agg #[.slice p A.path.length cp, .int .i64 A.pref, .int .i64 A.med, .int .i64 A.org, .slice q A.tags.length cq] ∧ Ints w p A.path ∧ Ints w q A.tags ∧ Kind1 p A.path.length cp ∧ Kind1 q A.tags.length cq ∧ (∀ b o, p = some ⟨b, o, none⟩ → 0 < A.path.length → b < Lo ∨ Hi ≤ b) ∧ (∀ b o, q = some ⟨b, o, none⟩ → 0 < A.tags.length → b < Lo ∨ Hi ≤ b)
theorem AttrL.attrK {w : World} {v : Value} {A : At} {Lo : Nat} (h : AttrL w v A Lo) : AttrK w v A := by
  obtain ⟨p, cp, q, cq, e, h1, h2, h3, h4, -, -⟩ := h
  exact ⟨p, cp, q, cq, e, h1, h2, h3, h4⟩
theorem AttrH.attrK {w : World} {v : Value} {A : At} {Lo Hi : Nat} (h : AttrH w v A Lo Hi) : AttrK w v A := by
  obtain ⟨p, cp, q, cq, e, h1, h2, h3, h4, -, -⟩ := h
  exact ⟨p, cp, q, cq, e, h1, h2, h3, h4⟩
theorem attrH_none {w : World} {v : Value} (h : AttrK w v noneA) (Lo Hi : Nat) : AttrH w v noneA Lo Hi := by
  obtain ⟨p, cp, q, cq, e, h1, h2, h3, h4⟩ := h
  exact ⟨p, cp, q, cq, e, h1, h2, h3, h4, fun b o _ h => by simp [noneA] at h, fun b o _ h => by simp [noneA] at h⟩
/-- an attribute's value whose rows lie in blocks of a kind. -/
def AttrLp (w : World) (v : Value) (A : At) (Lo : Nat → Prop) : Prop :=
  ∃ p cp q cq, v = .agg #[.slice p A.path.length cp, .int .i64 A.pref, .int .i64 A.med, .int .i64 A.org, .slice q A.tags.length cq] ∧ Ints w p A.path ∧ Ints w q A.tags ∧ Kind1 p A.path.length cp ∧ Kind1 q A.tags.length cq ∧ (∀ b o, p = some ⟨b, o, none⟩ → 0 < A.path.length → Lo b) ∧ (∀ b o, q = some ⟨b, o, none⟩ → 0 < A.tags.length → Lo b)
/-- an attribute's value whose rows lie in blocks of a kind, or from Hi on. -/
def AttrHp (w : World) (v : Value) (A : At) (Lo : Nat → Prop) (Hi : Nat) : Prop :=
  ∃ p cp q cq, v = .agg #[.slice p A.path.length cp, .int .i64 A.pref, .int .i64 A.med, .int .i64 A.org, .slice q A.tags.length cq] ∧ Ints w p A.path ∧ Ints w q A.tags ∧ Kind1 p A.path.length cp ∧ Kind1 q A.tags.length cq ∧ (∀ b o, p = some ⟨b, o, none⟩ → 0 < A.path.length → Lo b ∨ Hi ≤ b) ∧ (∀ b o, q = some ⟨b, o, none⟩ → 0 < A.tags.length → Lo b ∨ Hi ≤ b)
theorem AttrLp.attrK {w : World} {v : Value} {A : At} {Lo : Nat → Prop} (h : AttrLp w v A Lo) : AttrK w v A := by
  obtain ⟨p, cp, q, cq, e, h1, h2, h3, h4, -, -⟩ := h
  exact ⟨p, cp, q, cq, e, h1, h2, h3, h4⟩
theorem AttrHp.attrK {w : World} {v : Value} {A : At} {Lo : Nat → Prop} {Hi : Nat} (h : AttrHp w v A Lo Hi) : AttrK w v A := by
  obtain ⟨p, cp, q, cq, e, h1, h2, h3, h4, -, -⟩ := h
  exact ⟨p, cp, q, cq, e, h1, h2, h3, h4⟩
theorem attrHp_none {w : World} {v : Value} (h : AttrK w v noneA) (Lo : Nat → Prop) (Hi : Nat) : AttrHp w v noneA Lo Hi := by
  obtain ⟨p, cp, q, cq, e, h1, h2, h3, h4⟩ := h
  exact ⟨p, cp, q, cq, e, h1, h2, h3, h4, fun b o _ h => by simp [noneA] at h, fun b o _ h => by simp [noneA] at h⟩
theorem ints_lt {w : World} {p : Option Addr} {L : List Int} (h : Ints w p L) {b o : Nat} (e : p = some ⟨b, o, none⟩) (hl : 0 < L.length) : b < w.heap.size := by
  obtain ⟨b', o', e', c⟩ := h 0 hl
  rw [e] at e'
  simp only [Option.some.injEq, Addr.mk.injEq, and_true] at e'
  obtain ⟨rfl, rfl⟩ := e'
  exact cell_lt' c
theorem attrL_of {w0 w : World} {v : Value} {A : At} (h : AttrK w0 v A) (hb : Below w0.heap.size w0 w) : AttrL w v A w0.heap.size := by
  obtain ⟨p, cp, q, cq, e, h1, h2, h3, h4⟩ := h
  exact ⟨p, cp, q, cq, e, h1.below hb, h2.below hb, h3, h4, fun b o e hl => ints_lt h1 e hl, fun b o e hl => ints_lt h2 e hl⟩

set_option linter.unusedSimpArgs false in
set_option linter.unusedVariables false in
set_option maxRecDepth 100000 in
set_option maxHeartbeats 8000000 in
theorem rTagOf_in (v : Value) (A : At) (x : Int) (Lo : Nat → Prop) (w : World) (hL : AttrLp w v A Lo) (hA : RightA A) (hb : ¬ (x < 1 ∨ 9999 < x)) :
    Calls Tryz.prog 25 #[v, .int .i64 x] w fun r w' => (∃ v', r = .returned (.tuple #[v', .int .i64 (tagC A x)]) ∧ AttrHp w' v' (if tagC A x = 0 then tagA A x else noneA) Lo w.heap.size) ∧ Below w.heap.size w w' := by
  have h := hL.attrK
  have HC : Hid (∀ w', Below w.heap.size w w' → Calls _ _ _ _ _) := fun w' hb => rAttrFault_any v A w' (h.attr.below hb) (by have := hA.path; omega) (by have := hA.tags; omega) 0 (-1) (fault_of_right hA)
  have g1 : decide (x < 1) = false := decide_eq_false (by omega)
  have g2 : decide (9999 < x) = false := decide_eq_false (by omega)
  have hTL := hA.tags
  have hTC := tag_case hA hb
  have hKL := pos_le A.tags x
  obtain ⟨HBF⟩ : Nonempty (Hid (∀ j, j < tagPos A.tags x → ∃ hl : j < A.tags.length, A.tags[j] < x)) := ⟨fun j hj => pos_before (rise_pair hA.rise) x j hj⟩
  obtain ⟨tc, htc⟩ : ∃ t, Hid (tagC A x = t) := ⟨_, show _ = _ from rfl⟩
  obtain ⟨ta, hta⟩ : ∃ t, Hid (tagA A x = t) := ⟨_, show _ = _ from rfl⟩
  obtain ⟨K, hK⟩ : ∃ K, Hid (tagPos A.tags x = K) := ⟨_, show _ = _ from rfl⟩
  rw [show tagPos A.tags x = K from hK.out] at hTC HBF hKL
  obtain ⟨HTC⟩ : Nonempty (Hid (TagCase A x K)) := ⟨hTC⟩
  obtain ⟨tr, htr⟩ : ∃ t, Hid ((if tagC A x = 0 then tagA A x else noneA) = t) := ⟨_, show _ = _ from rfl⟩
  rw [show (if tagC A x = 0 then tagA A x else noneA) = tr from htr.out, show tagC A x = tc from htc.out]
  obtain ⟨HTR⟩ : Nonempty (Hid ((tc = 0 → tr = ta) ∧ (¬ tc = 0 → tr = noneA))) := ⟨by
    rw [← show (if tagC A x = 0 then tagA A x else noneA) = tr from htr.out, ← show tagC A x = tc from htc.out, ← show tagA A x = ta from hta.out]
    exact ⟨fun h => by rw [if_pos h], fun h => by rw [if_neg h]⟩⟩
  clear htr
  obtain ⟨i0, hi, hz0, hz1, hz2⟩ := info_parts infoInt
  obtain ⟨p, cp, q, cq, rfl, i1, i2, k1, k2, l1, l2⟩ := hL
  clear h
  obtain ⟨P, f, m, o, T⟩ := A
  simp only at *
  obtain ⟨HK⟩ : Nonempty (Hid (Ints w p P ∧ Ints w q T ∧ Kind1 p P.length cp ∧ Kind1 q T.length cq)) := ⟨⟨i1, i2, k1, k2⟩⟩
  obtain ⟨HLO⟩ : Nonempty (Hid ((∀ b o, p = some ⟨b, o, none⟩ → 0 < P.length → Lo b) ∧ (∀ b o, q = some ⟨b, o, none⟩ → 0 < T.length → Lo b))) := ⟨⟨l1, l2⟩⟩
  clear hA hb i1 i2 k1 k2 l1 l2 hTC
  have hfd := field_code 0 (-1)
  go_enter Tryz.func25, Tryz.ntmps25
  go_wp2_with fail
  refine (HC.out _ (below_two _ _ _)).mono ?_
  rintro e w1 ⟨rfl, hb1⟩
  have hx := (ax_start w _ _).on hb1
  obtain ⟨H1⟩ : Nonempty (Hid (AX w w1 w.heap.size _ _)) := ⟨hx⟩
  obtain ⟨B, hB⟩ : ∃ B, Hid (w.heap.size = B) := ⟨_, show _ = _ from rfl⟩
  rw [show w.heap.size = B from hB.out] at H1 ⊢
  clear hb1 HC hx
  go_wp2_with fail
  obtain ⟨S, hS⟩ : ∃ S, Hid (w1.heap.size = S) := ⟨_, show _ = _ from rfl⟩
  obtain ⟨HLT⟩ : Nonempty (Hid (B + 1 < S)) := ⟨by rw [← show w1.heap.size = S from hS.out]; exact (Array.getElem?_eq_some_iff.1 H1.out.2.1).1⟩
  go_loopw [7] (fun i wr => ∃ (k : Nat), i = .int .i64 k ∧ k ≤ K ∧ Hid (Below S w1 wr)) (fun i _ => K - (intOf i).toNat)
  case atStart => exact ⟨0, rfl, Nat.zero_le _, Below.refl _ _⟩
  case round =>
    obtain ⟨k, rfl, hkK, HNX⟩ := hrel
    have hx := H1.out.on' HNX.out HLT.out
    obtain ⟨HX⟩ : Nonempty (Hid (AX w wr B _ _)) := ⟨hx⟩
    obtain ⟨a0, a1, a2, a3, a4⟩ := hx.arg
    have hBW : Below w.heap.size w wr := by rw [show w.heap.size = B from hB.out]; exact hx.2.2
    obtain ⟨HB0⟩ : Nonempty (Hid (Below w.heap.size w wr)) := ⟨hBW⟩
    clear hx hBW
    by_cases hlt : k < K
    · obtain ⟨hl, hy⟩ := HBF.out k hlt
      have q3 : (k : Int) < T.length := by omega
      obtain ⟨qb, qo, rfl, x0⟩ := HK.out.2.1 k hl
      have d0 := cell_kept HB0.out x0
      obtain ⟨y, hy0⟩ : ∃ y, Hid (T[k] = y) := ⟨_, show _ = _ from rfl⟩
      rw [show T[k] = y from hy0.out] at d0 hy
      have hyx : decide (y < x) = true := decide_eq_true hy
      clear hy x0
      go_wp2_with fail
      go_roundw
      case rel => exact ⟨k + 1, by go_num, by omega, HNX⟩
      case measure => simp [intOf]; omega
    · obtain rfl : k = K := by omega
      clear hlt
      obtain ⟨r0, r1, r2, r3, r4⟩ := HX.out.res
      have y0 := (HX.out.soft 0).2
      have y1 := (HX.out.soft 1).2
      have y2 := (HX.out.soft 2).2
      have y3 := (HX.out.soft 3).2
      have y4 := (HX.out.soft 4).2
      rcases HTC.out with ⟨⟨hl, hyx⟩, hc, ht⟩ | ⟨h8, hx, hc⟩ | ⟨h8, hx, hc, ht⟩
      · have hl' : k < T.length := hl
        have q3 : (k : Int) < T.length := by omega
        obtain ⟨qb, qo, rfl, x0⟩ := HK.out.2.1 k hl
        have d0 := cell_kept HB0.out x0
        rw [show T[k] = x from hyx] at d0
        have e1 : decide (x < x) = false := by simp
        have e2 : (x == x) = true := by simp
        obtain ⟨HT⟩ : Nonempty (Hid (tc = 0 ∧ ta = ⟨P, f, m, o, T⟩)) := ⟨⟨by rw [← htc.out]; exact hc, by rw [← hta.out]; exact ht⟩⟩
        clear x0 hyx hc ht
        go_wp2_with fail
        have hbE := ((((HX.out.2.2.setCell (p := ⟨B + 1, 0, none⟩) (by simp) (.slice p P.length cp)).setCell (p := ⟨B + 1, 1, none⟩) (by simp) (.int .i64 f)).setCell (p := ⟨B + 1, 2, none⟩) (by simp) (.int .i64 m)).setCell (p := ⟨B + 1, 3, none⟩) (by simp) (.int .i64 o)).setCell (p := ⟨B + 1, 4, none⟩) (by simp) (.slice (some ⟨qb, qo, none⟩) T.length cq)
        have hbE' := hbE
        rw [← show w.heap.size = B from hB.out] at hbE'
        refine bodyPost_ret (v := .tuple #[.agg #[.slice p P.length cp, .int .i64 f, .int .i64 m, .int .i64 o, .slice (some ⟨qb, qo, none⟩) T.length cq], .int .i64 0]) (by simp [results, Tryz.results25, go_sem, r0, r1, r2, r3, r4]) rfl ⟨⟨_, by rw [HT.out.1], ?_⟩, ?_⟩
        · rw [HTR.out.1 HT.out.1, HT.out.2]
          rw [← show w.heap.size = B from hB.out]
          exact ⟨p, cp, _, cq, rfl, HK.out.1.below hbE', HK.out.2.1.below hbE', HK.out.2.2.1, HK.out.2.2.2, fun b o e h => .inl (HLO.out.1 b o e h), fun b o e h => .inl (HLO.out.2 b o e h)⟩
        · first | exact hbE | (rw [show w.heap.size = B from hB.out]; exact hbE)
      · simp only at h8 hx
        rcases hx with ⟨hl, hyx⟩ | hx
        · skip
          have q3 : (k : Int) < T.length := by omega
          obtain ⟨qb, qo, rfl, x0⟩ := HK.out.2.1 k hl
          have d0 := cell_kept HB0.out x0
          obtain ⟨y, hy0⟩ : ∃ y, Hid (T[k] = y) := ⟨_, show _ = _ from rfl⟩
          rw [show T[k] = y from hy0.out] at d0 hyx
          have e1 : decide (y < x) = false := decide_eq_false (by omega)
          have e2 : (y == x) = false := beq_eq_false_iff_ne.2 (by omega)
          clear x0 hyx
          have hT : Hid (tc = 7) := by show _ = _; rw [← htc.out]; exact hc
          have HT := hT
          have e8 : decide ((T.length : Int) ≥ 8) = true := decide_eq_true (by omega)
          clear hc
          go_wp2_with fail
          refine bodyPost_ret (v := .tuple #[.agg #[.slice none 0 0, .int .i64 0, .int .i64 0, .int .i64 0, .slice none 0 0], .int .i64 7]) (by simp [results, Tryz.results25, go_sem, r0, r1, r2, r3, r4]) rfl ⟨⟨_, by rw [HT.out], by rw [HTR.out.2 (by rw [HT.out]; decide)]; exact attrHp_none (attrK_none _) _ _⟩, ?_⟩
          have hbE := ((((HX.out.2.2.setCell (p := ⟨B + 1, 0, none⟩) (by simp) (.slice none 0 0)).setCell (p := ⟨B + 1, 1, none⟩) (by simp) (.int .i64 0)).setCell (p := ⟨B + 1, 2, none⟩) (by simp) (.int .i64 0)).setCell (p := ⟨B + 1, 3, none⟩) (by simp) (.int .i64 0)).setCell (p := ⟨B + 1, 4, none⟩) (by simp) (.slice none 0 0)
          first | exact hbE | (rw [show w.heap.size = B from hB.out]; exact hbE)
        · skip
          have hx1 : T.length ≤ k := by omega
          clear hx
          have q3 : ¬ (k : Int) < T.length := by omega
          have q4 : decide ((k : Int) < T.length) = false := decide_eq_false q3
          have hT : Hid (tc = 7) := by show _ = _; rw [← htc.out]; exact hc
          have HT := hT
          have e8 : decide ((T.length : Int) ≥ 8) = true := decide_eq_true (by omega)
          clear hc
          go_wp2_with fail
          refine bodyPost_ret (v := .tuple #[.agg #[.slice none 0 0, .int .i64 0, .int .i64 0, .int .i64 0, .slice none 0 0], .int .i64 7]) (by simp [results, Tryz.results25, go_sem, r0, r1, r2, r3, r4]) rfl ⟨⟨_, by rw [HT.out], by rw [HTR.out.2 (by rw [HT.out]; decide)]; exact attrHp_none (attrK_none _) _ _⟩, ?_⟩
          have hbE := ((((HX.out.2.2.setCell (p := ⟨B + 1, 0, none⟩) (by simp) (.slice none 0 0)).setCell (p := ⟨B + 1, 1, none⟩) (by simp) (.int .i64 0)).setCell (p := ⟨B + 1, 2, none⟩) (by simp) (.int .i64 0)).setCell (p := ⟨B + 1, 3, none⟩) (by simp) (.int .i64 0)).setCell (p := ⟨B + 1, 4, none⟩) (by simp) (.slice none 0 0)
          first | exact hbE | (rw [show w.heap.size = B from hB.out]; exact hbE)
      · simp only at h8 hx
        rcases hx with ⟨hl, hyx⟩ | hx
        · skip
          have q3 : (k : Int) < T.length := by omega
          obtain ⟨qb, qo, rfl, x0⟩ := HK.out.2.1 k hl
          have d0 := cell_kept HB0.out x0
          obtain ⟨y, hy0⟩ : ∃ y, Hid (T[k] = y) := ⟨_, show _ = _ from rfl⟩
          rw [show T[k] = y from hy0.out] at d0 hyx
          have e1 : decide (y < x) = false := decide_eq_false (by omega)
          have e2 : (y == x) = false := beq_eq_false_iff_ne.2 (by omega)
          clear x0 hyx
          obtain ⟨HT⟩ : Nonempty (Hid (tc = 0 ∧ ta = ⟨P, f, m, o, (T.take k ++ [x]) ++ T.drop k⟩)) := ⟨⟨by rw [← htc.out]; exact hc, by rw [← hta.out]; exact ht⟩⟩
          have e8 : decide ((T.length : Int) ≥ 8) = false := decide_eq_false (by omega)
          clear hc ht
          have hcq : T.length ≤ cq ∧ cq ≤ maxLen := by
            rcases HK.out.2.2.2 with ⟨h, -⟩ | ⟨-, h⟩
            · cases h
            · exact h
          obtain ⟨hcq1, hcq2⟩ := hcq
          obtain ⟨O1, hO1⟩ : ∃ O, Hid ([] ++ T.take k = O) := ⟨_, show _ = _ from rfl⟩
          have hl1 : O1.length ≤ 8 := by rw [← hO1.out]; simp; omega
          have hSw : S ≤ wr.heap.size := by rw [← show w1.heap.size = S from hS.out]; exact HNX.out.size
          go_wp2_with (at_builtin; refine wp_addAll1 rfl _ _ 22 rfl S 3 i0 Tryz.underlying22 hi hz0 hz1 hz2 _ [] rfl (World.ownsRow_nil _ _ _ _) _ (T.take k) _ _ rfl (by first | rfl | (simp; done) | (simp; omega)) (by exact .inr ⟨⟨qb, qo, rfl⟩, by omega, hcq2⟩) (by exact ints_take (HK.out.2.1.below HB0.out) k) O1 hO1 (by simp; omega) hSw ?_)
          intro v1 w2 ho1 hb2
          obtain ⟨HO1⟩ : Nonempty (Hid (w2.ownsRow S 3 1 v1 O1.length (O1.map intV) ∧ Below S w1 w2)) := ⟨⟨ho1, HNX.out.trans hb2⟩⟩
          have hSw2 : S ≤ w2.heap.size := Nat.le_trans hSw hb2.size
          clear ho1 hb2 HX a0 a1 a2 a3 a4 r0 r1 r2 r3 r4 y0 y1 y2 y3 y4
          go_wp2_with (at_builtin; refine wpList_append_own _ rfl _ _ 22 rfl S 3 i0 (.int .i64 0) 1 8 Tryz.underlying22 hi hz0 hz1 hz2 rfl (by decide) _ _ _ rfl (HO1.out.1.alloc _) ⟨w2.heap.size, 0, none⟩ 1 1 [intV x] rfl rfl ?c1 ?c2 ?c3 ?c4 ?c5 ?_)
          case c1 =>
            intro j u hj
            match j, hj with
            | 0, hj => simp at hj; subst hj; simp [Addr.add, intV]
          case c2 => intro u hu; simp at hu; subst hu; rfl
          case c3 => unfold maxLen; omega
          case c4 => omega
          case c5 => simp; omega
          intro v2 w3 hown' hgrow _
          have R := rel_int (x := x) hSw2 HO1.out.1 HO1.out.2 hown' hgrow
          obtain ⟨HO2⟩ : Nonempty (Hid (w3.ownsRow S 3 1 v2 (O1 ++ [x]).length ((O1 ++ [x]).map intV) ∧ Below S w1 w3)) := ⟨R⟩
          have hSw3 : S ≤ w3.heap.size := by rw [← show w1.heap.size = S from hS.out]; exact R.2.size
          obtain ⟨O2, hO2⟩ : ∃ O, Hid (O1 ++ [x] = O) := ⟨_, show _ = _ from rfl⟩
          have hl2 : O2.length ≤ 9 := by rw [← hO2.out]; simp; omega
          rw [show O1 ++ [x] = O2 from hO2.out] at HO2
          clear hown' hgrow R HO1
          have hx := H1.out.on' HO2.out.2 HLT.out
          obtain ⟨a0, a1, a2, a3, a4⟩ := hx.arg
          obtain ⟨HB3⟩ : Nonempty (Hid (Below w.heap.size w w3)) := ⟨by rw [show w.heap.size = B from hB.out]; exact hx.2.2⟩
          obtain ⟨O3, hO3⟩ : ∃ O, Hid (O2 ++ (T.drop k) = O) := ⟨_, show _ = _ from rfl⟩
          clear hx
          go_wp2_with (at_builtin; refine wp_addAll1 rfl _ _ 22 rfl S 3 i0 Tryz.underlying22 hi hz0 hz1 hz2 _ O2 rfl HO2.out.1 _ (T.drop k) _ _ rfl (by first | rfl | (simp; done) | (simp; omega)) (by exact .inr ⟨⟨qb, qo + k, rfl⟩, by omega, by omega⟩) (by exact ints_drop1 (HK.out.2.1.below HB3.out) k) O3 hO3 (by simp; omega) hSw3 ?_)
          intro v3 w4 ho3 hb4
          obtain ⟨p1, cp1, rfl, k1, hi1, hf1⟩ := own_kind' ho3
          have hx := H1.out.on' (HO2.out.2.trans hb4) HLT.out
          obtain ⟨H2⟩ : Nonempty (Hid (AX w w4 B _ _ ∧ Ints w4 p1 O3 ∧ Kind1 p1 O3.length cp1 ∧ (∀ b o, p1 = some ⟨b, o, none⟩ → B + 1 < b))) := ⟨⟨hx, hi1, k1, fun b o e => by have := hf1 b o e; have := HLT.out; omega⟩⟩
          clear a0 a1 a2 a3 a4
          obtain ⟨a0, a1, a2, a3, a4⟩ := hx.arg
          obtain ⟨r0, r1, r2, r3, r4⟩ := hx.res
          have z4 := (hx.soft 4).1
          have y0 := (hx.soft 0).2
          have y1 := (hx.soft 1).2
          have y2 := (hx.soft 2).2
          have y3 := (hx.soft 3).2
          have y4 := (hx.soft 4).2
          clear ho3 hb4 k1 hi1 hf1 hx HO2
          go_wp2_with fail
          obtain ⟨HX, j1, k1, n1⟩ := H2.out
          have n1' : ∀ b o, p1 = some ⟨b, o, none⟩ → B < b := fun b o e => by have := n1 b o e; omega
          have eA : ta = ⟨P, f, m, o, O3⟩ := by
            rw [HT.out.2, ← hO3.out, ← hO2.out, ← hO1.out]
            simp
          have hbE := (((((HX.2.2.setCell (p := ⟨B, 4, none⟩) (by simp) (.slice p1 O3.length cp1)).setCell (p := ⟨B + 1, 0, none⟩) (by simp) (.slice p P.length cp)).setCell (p := ⟨B + 1, 1, none⟩) (by simp) (.int .i64 f)).setCell (p := ⟨B + 1, 2, none⟩) (by simp) (.int .i64 m)).setCell (p := ⟨B + 1, 3, none⟩) (by simp) (.int .i64 o)).setCell (p := ⟨B + 1, 4, none⟩) (by simp) (.slice p1 O3.length cp1)
          refine bodyPost_ret (v := .tuple #[.agg #[.slice p P.length cp, .int .i64 f, .int .i64 m, .int .i64 o, .slice p1 O3.length cp1], .int .i64 0]) (by simp [results, Tryz.results25, go_sem, r0, r1, r2, r3, r4]) rfl ⟨⟨_, by rw [HT.out.1], ?_⟩, ?_⟩
          · rw [HTR.out.1 HT.out.1, eA]
            refine ⟨p, cp, p1, cp1, rfl, ?_, ?_, HK.out.2.2.1, k1, fun b o e h => .inl (HLO.out.1 b o e h), fun b o e h => .inr (by have := n1 b o e; have hh := hB.out; omega)⟩
            · exact HK.out.1.below (by rw [show w.heap.size = B from hB.out]; exact hbE)
            · exact (((((j1.set n1' _ _).set n1 _ _).set n1 _ _).set n1 _ _).set n1 _ _).set n1 _ _
          · first | exact hbE | (rw [show w.heap.size = B from hB.out]; exact hbE)
        · skip
          have hx1 : T.length ≤ k := by omega
          clear hx
          have q3 : ¬ (k : Int) < T.length := by omega
          have q4 : decide ((k : Int) < T.length) = false := decide_eq_false q3
          obtain ⟨HT⟩ : Nonempty (Hid (tc = 0 ∧ ta = ⟨P, f, m, o, (T.take k ++ [x]) ++ T.drop k⟩)) := ⟨⟨by rw [← htc.out]; exact hc, by rw [← hta.out]; exact ht⟩⟩
          have e8 : decide ((T.length : Int) ≥ 8) = false := decide_eq_false (by omega)
          clear hc ht
          rcases HK.out.2.2.2 with ⟨rfl, hn0, rfl⟩ | ⟨⟨qb, qo, rfl⟩, hcq1, hcq2⟩
          · skip
            obtain ⟨O1, hO1⟩ : ∃ O, Hid ([] ++ T.take k = O) := ⟨_, show _ = _ from rfl⟩
            have hl1 : O1.length ≤ 8 := by rw [← hO1.out]; simp; omega
            have hSw : S ≤ wr.heap.size := by rw [← show w1.heap.size = S from hS.out]; exact HNX.out.size
            go_wp2_with (at_builtin; refine wp_addAll1 rfl _ _ 22 rfl S 3 i0 Tryz.underlying22 hi hz0 hz1 hz2 _ [] rfl (World.ownsRow_nil _ _ _ _) _ (T.take k) _ _ rfl (by first | rfl | (simp; done) | (simp; omega)) (by first | exact .inl ⟨rfl, rfl, rfl⟩ | exact .inl ⟨rfl, by omega, by omega⟩) (by exact ints_take (HK.out.2.1.below HB0.out) k) O1 hO1 (by simp; omega) hSw ?_)
            intro v1 w2 ho1 hb2
            obtain ⟨HO1⟩ : Nonempty (Hid (w2.ownsRow S 3 1 v1 O1.length (O1.map intV) ∧ Below S w1 w2)) := ⟨⟨ho1, HNX.out.trans hb2⟩⟩
            have hSw2 : S ≤ w2.heap.size := Nat.le_trans hSw hb2.size
            clear ho1 hb2 HX a0 a1 a2 a3 a4 r0 r1 r2 r3 r4 y0 y1 y2 y3 y4
            go_wp2_with (at_builtin; refine wpList_append_own _ rfl _ _ 22 rfl S 3 i0 (.int .i64 0) 1 8 Tryz.underlying22 hi hz0 hz1 hz2 rfl (by decide) _ _ _ rfl (HO1.out.1.alloc _) ⟨w2.heap.size, 0, none⟩ 1 1 [intV x] rfl rfl ?c1 ?c2 ?c3 ?c4 ?c5 ?_)
            case c1 =>
              intro j u hj
              match j, hj with
              | 0, hj => simp at hj; subst hj; simp [Addr.add, intV]
            case c2 => intro u hu; simp at hu; subst hu; rfl
            case c3 => unfold maxLen; omega
            case c4 => omega
            case c5 => simp; omega
            intro v2 w3 hown' hgrow _
            have R := rel_int (x := x) hSw2 HO1.out.1 HO1.out.2 hown' hgrow
            obtain ⟨HO2⟩ : Nonempty (Hid (w3.ownsRow S 3 1 v2 (O1 ++ [x]).length ((O1 ++ [x]).map intV) ∧ Below S w1 w3)) := ⟨R⟩
            have hSw3 : S ≤ w3.heap.size := by rw [← show w1.heap.size = S from hS.out]; exact R.2.size
            obtain ⟨O2, hO2⟩ : ∃ O, Hid (O1 ++ [x] = O) := ⟨_, show _ = _ from rfl⟩
            have hl2 : O2.length ≤ 9 := by rw [← hO2.out]; simp; omega
            rw [show O1 ++ [x] = O2 from hO2.out] at HO2
            clear hown' hgrow R HO1
            have hx := H1.out.on' HO2.out.2 HLT.out
            obtain ⟨a0, a1, a2, a3, a4⟩ := hx.arg
            obtain ⟨HB3⟩ : Nonempty (Hid (Below w.heap.size w w3)) := ⟨by rw [show w.heap.size = B from hB.out]; exact hx.2.2⟩
            obtain ⟨O3, hO3⟩ : ∃ O, Hid (O2 ++ ([] : List Int) = O) := ⟨_, show _ = _ from rfl⟩
            clear hx
            go_wp2_with (at_builtin; refine wp_addAll1 rfl _ _ 22 rfl S 3 i0 Tryz.underlying22 hi hz0 hz1 hz2 _ O2 rfl HO2.out.1 _ ([] : List Int) _ _ rfl (by first | rfl | (simp; done) | (simp; omega)) (by first | exact .inl ⟨rfl, rfl, rfl⟩ | exact .inl ⟨rfl, by omega, by omega⟩) (by exact ints_nil _ _) O3 hO3 (by simp; omega) hSw3 ?_)
            intro v3 w4 ho3 hb4
            obtain ⟨p1, cp1, rfl, k1, hi1, hf1⟩ := own_kind' ho3
            have hx := H1.out.on' (HO2.out.2.trans hb4) HLT.out
            obtain ⟨H2⟩ : Nonempty (Hid (AX w w4 B _ _ ∧ Ints w4 p1 O3 ∧ Kind1 p1 O3.length cp1 ∧ (∀ b o, p1 = some ⟨b, o, none⟩ → B + 1 < b))) := ⟨⟨hx, hi1, k1, fun b o e => by have := hf1 b o e; have := HLT.out; omega⟩⟩
            clear a0 a1 a2 a3 a4
            obtain ⟨a0, a1, a2, a3, a4⟩ := hx.arg
            obtain ⟨r0, r1, r2, r3, r4⟩ := hx.res
            have z4 := (hx.soft 4).1
            have y0 := (hx.soft 0).2
            have y1 := (hx.soft 1).2
            have y2 := (hx.soft 2).2
            have y3 := (hx.soft 3).2
            have y4 := (hx.soft 4).2
            clear ho3 hb4 k1 hi1 hf1 hx HO2
            go_wp2_with fail
            obtain ⟨HX, j1, k1, n1⟩ := H2.out
            have n1' : ∀ b o, p1 = some ⟨b, o, none⟩ → B < b := fun b o e => by have := n1 b o e; omega
            have eA : ta = ⟨P, f, m, o, O3⟩ := by
              rw [HT.out.2, ← hO3.out, ← hO2.out, ← hO1.out]
              simp
              first | omega | exact List.drop_eq_nil_of_le (by omega)
            have hbE := (((((HX.2.2.setCell (p := ⟨B, 4, none⟩) (by simp) (.slice p1 O3.length cp1)).setCell (p := ⟨B + 1, 0, none⟩) (by simp) (.slice p P.length cp)).setCell (p := ⟨B + 1, 1, none⟩) (by simp) (.int .i64 f)).setCell (p := ⟨B + 1, 2, none⟩) (by simp) (.int .i64 m)).setCell (p := ⟨B + 1, 3, none⟩) (by simp) (.int .i64 o)).setCell (p := ⟨B + 1, 4, none⟩) (by simp) (.slice p1 O3.length cp1)
            refine bodyPost_ret (v := .tuple #[.agg #[.slice p P.length cp, .int .i64 f, .int .i64 m, .int .i64 o, .slice p1 O3.length cp1], .int .i64 0]) (by simp [results, Tryz.results25, go_sem, r0, r1, r2, r3, r4]) rfl ⟨⟨_, by rw [HT.out.1], ?_⟩, ?_⟩
            · rw [HTR.out.1 HT.out.1, eA]
              refine ⟨p, cp, p1, cp1, rfl, ?_, ?_, HK.out.2.2.1, k1, fun b o e h => .inl (HLO.out.1 b o e h), fun b o e h => .inr (by have := n1 b o e; have hh := hB.out; omega)⟩
              · exact HK.out.1.below (by rw [show w.heap.size = B from hB.out]; exact hbE)
              · exact (((((j1.set n1' _ _).set n1 _ _).set n1 _ _).set n1 _ _).set n1 _ _).set n1 _ _
            · first | exact hbE | (rw [show w.heap.size = B from hB.out]; exact hbE)
          · by_cases hkc : k = cq
            · skip
              obtain ⟨O1, hO1⟩ : ∃ O, Hid ([] ++ T.take k = O) := ⟨_, show _ = _ from rfl⟩
              have hl1 : O1.length ≤ 8 := by rw [← hO1.out]; simp; omega
              have hSw : S ≤ wr.heap.size := by rw [← show w1.heap.size = S from hS.out]; exact HNX.out.size
              go_wp2_with (at_builtin; refine wp_addAll1 rfl _ _ 22 rfl S 3 i0 Tryz.underlying22 hi hz0 hz1 hz2 _ [] rfl (World.ownsRow_nil _ _ _ _) _ (T.take k) _ _ rfl (by first | rfl | (simp; done) | (simp; omega)) (by exact .inr ⟨⟨qb, qo, rfl⟩, by omega, hcq2⟩) (by exact ints_take (HK.out.2.1.below HB0.out) k) O1 hO1 (by simp; omega) hSw ?_)
              intro v1 w2 ho1 hb2
              obtain ⟨HO1⟩ : Nonempty (Hid (w2.ownsRow S 3 1 v1 O1.length (O1.map intV) ∧ Below S w1 w2)) := ⟨⟨ho1, HNX.out.trans hb2⟩⟩
              have hSw2 : S ≤ w2.heap.size := Nat.le_trans hSw hb2.size
              clear ho1 hb2 HX a0 a1 a2 a3 a4 r0 r1 r2 r3 r4 y0 y1 y2 y3 y4
              go_wp2_with (at_builtin; refine wpList_append_own _ rfl _ _ 22 rfl S 3 i0 (.int .i64 0) 1 8 Tryz.underlying22 hi hz0 hz1 hz2 rfl (by decide) _ _ _ rfl (HO1.out.1.alloc _) ⟨w2.heap.size, 0, none⟩ 1 1 [intV x] rfl rfl ?c1 ?c2 ?c3 ?c4 ?c5 ?_)
              case c1 =>
                intro j u hj
                match j, hj with
                | 0, hj => simp at hj; subst hj; simp [Addr.add, intV]
              case c2 => intro u hu; simp at hu; subst hu; rfl
              case c3 => unfold maxLen; omega
              case c4 => omega
              case c5 => simp; omega
              intro v2 w3 hown' hgrow _
              have R := rel_int (x := x) hSw2 HO1.out.1 HO1.out.2 hown' hgrow
              obtain ⟨HO2⟩ : Nonempty (Hid (w3.ownsRow S 3 1 v2 (O1 ++ [x]).length ((O1 ++ [x]).map intV) ∧ Below S w1 w3)) := ⟨R⟩
              have hSw3 : S ≤ w3.heap.size := by rw [← show w1.heap.size = S from hS.out]; exact R.2.size
              obtain ⟨O2, hO2⟩ : ∃ O, Hid (O1 ++ [x] = O) := ⟨_, show _ = _ from rfl⟩
              have hl2 : O2.length ≤ 9 := by rw [← hO2.out]; simp; omega
              rw [show O1 ++ [x] = O2 from hO2.out] at HO2
              clear hown' hgrow R HO1
              have hx := H1.out.on' HO2.out.2 HLT.out
              obtain ⟨a0, a1, a2, a3, a4⟩ := hx.arg
              obtain ⟨HB3⟩ : Nonempty (Hid (Below w.heap.size w w3)) := ⟨by rw [show w.heap.size = B from hB.out]; exact hx.2.2⟩
              obtain ⟨O3, hO3⟩ : ∃ O, Hid (O2 ++ ([] : List Int) = O) := ⟨_, show _ = _ from rfl⟩
              clear hx
              go_wp2_with (at_builtin; refine wp_addAll1 rfl _ _ 22 rfl S 3 i0 Tryz.underlying22 hi hz0 hz1 hz2 _ O2 rfl HO2.out.1 _ ([] : List Int) _ _ rfl (by first | rfl | (simp; done) | (simp; omega)) (by exact .inr ⟨⟨_, _, rfl⟩, by omega, by (try unfold maxLen); omega⟩) (by exact ints_nil _ _) O3 hO3 (by simp; omega) hSw3 ?_)
              intro v3 w4 ho3 hb4
              obtain ⟨p1, cp1, rfl, k1, hi1, hf1⟩ := own_kind' ho3
              have hx := H1.out.on' (HO2.out.2.trans hb4) HLT.out
              obtain ⟨H2⟩ : Nonempty (Hid (AX w w4 B _ _ ∧ Ints w4 p1 O3 ∧ Kind1 p1 O3.length cp1 ∧ (∀ b o, p1 = some ⟨b, o, none⟩ → B + 1 < b))) := ⟨⟨hx, hi1, k1, fun b o e => by have := hf1 b o e; have := HLT.out; omega⟩⟩
              clear a0 a1 a2 a3 a4
              obtain ⟨a0, a1, a2, a3, a4⟩ := hx.arg
              obtain ⟨r0, r1, r2, r3, r4⟩ := hx.res
              have z4 := (hx.soft 4).1
              have y0 := (hx.soft 0).2
              have y1 := (hx.soft 1).2
              have y2 := (hx.soft 2).2
              have y3 := (hx.soft 3).2
              have y4 := (hx.soft 4).2
              clear ho3 hb4 k1 hi1 hf1 hx HO2
              go_wp2_with fail
              obtain ⟨HX, j1, k1, n1⟩ := H2.out
              have n1' : ∀ b o, p1 = some ⟨b, o, none⟩ → B < b := fun b o e => by have := n1 b o e; omega
              have eA : ta = ⟨P, f, m, o, O3⟩ := by
                rw [HT.out.2, ← hO3.out, ← hO2.out, ← hO1.out]
                simp
                first | omega | exact List.drop_eq_nil_of_le (by omega)
              have hbE := (((((HX.2.2.setCell (p := ⟨B, 4, none⟩) (by simp) (.slice p1 O3.length cp1)).setCell (p := ⟨B + 1, 0, none⟩) (by simp) (.slice p P.length cp)).setCell (p := ⟨B + 1, 1, none⟩) (by simp) (.int .i64 f)).setCell (p := ⟨B + 1, 2, none⟩) (by simp) (.int .i64 m)).setCell (p := ⟨B + 1, 3, none⟩) (by simp) (.int .i64 o)).setCell (p := ⟨B + 1, 4, none⟩) (by simp) (.slice p1 O3.length cp1)
              refine bodyPost_ret (v := .tuple #[.agg #[.slice p P.length cp, .int .i64 f, .int .i64 m, .int .i64 o, .slice p1 O3.length cp1], .int .i64 0]) (by simp [results, Tryz.results25, go_sem, r0, r1, r2, r3, r4]) rfl ⟨⟨_, by rw [HT.out.1], ?_⟩, ?_⟩
              · rw [HTR.out.1 HT.out.1, eA]
                refine ⟨p, cp, p1, cp1, rfl, ?_, ?_, HK.out.2.2.1, k1, fun b o e h => .inl (HLO.out.1 b o e h), fun b o e h => .inr (by have := n1 b o e; have hh := hB.out; omega)⟩
                · exact HK.out.1.below (by rw [show w.heap.size = B from hB.out]; exact hbE)
                · exact (((((j1.set n1' _ _).set n1 _ _).set n1 _ _).set n1 _ _).set n1 _ _).set n1 _ _
              · first | exact hbE | (rw [show w.heap.size = B from hB.out]; exact hbE)
            · skip
              obtain ⟨O1, hO1⟩ : ∃ O, Hid ([] ++ T.take k = O) := ⟨_, show _ = _ from rfl⟩
              have hl1 : O1.length ≤ 8 := by rw [← hO1.out]; simp; omega
              have hSw : S ≤ wr.heap.size := by rw [← show w1.heap.size = S from hS.out]; exact HNX.out.size
              go_wp2_with (at_builtin; refine wp_addAll1 rfl _ _ 22 rfl S 3 i0 Tryz.underlying22 hi hz0 hz1 hz2 _ [] rfl (World.ownsRow_nil _ _ _ _) _ (T.take k) _ _ rfl (by first | rfl | (simp; done) | (simp; omega)) (by exact .inr ⟨⟨qb, qo, rfl⟩, by omega, hcq2⟩) (by exact ints_take (HK.out.2.1.below HB0.out) k) O1 hO1 (by simp; omega) hSw ?_)
              intro v1 w2 ho1 hb2
              obtain ⟨HO1⟩ : Nonempty (Hid (w2.ownsRow S 3 1 v1 O1.length (O1.map intV) ∧ Below S w1 w2)) := ⟨⟨ho1, HNX.out.trans hb2⟩⟩
              have hSw2 : S ≤ w2.heap.size := Nat.le_trans hSw hb2.size
              clear ho1 hb2 HX a0 a1 a2 a3 a4 r0 r1 r2 r3 r4 y0 y1 y2 y3 y4
              go_wp2_with (at_builtin; refine wpList_append_own _ rfl _ _ 22 rfl S 3 i0 (.int .i64 0) 1 8 Tryz.underlying22 hi hz0 hz1 hz2 rfl (by decide) _ _ _ rfl (HO1.out.1.alloc _) ⟨w2.heap.size, 0, none⟩ 1 1 [intV x] rfl rfl ?c1 ?c2 ?c3 ?c4 ?c5 ?_)
              case c1 =>
                intro j u hj
                match j, hj with
                | 0, hj => simp at hj; subst hj; simp [Addr.add, intV]
              case c2 => intro u hu; simp at hu; subst hu; rfl
              case c3 => unfold maxLen; omega
              case c4 => omega
              case c5 => simp; omega
              intro v2 w3 hown' hgrow _
              have R := rel_int (x := x) hSw2 HO1.out.1 HO1.out.2 hown' hgrow
              obtain ⟨HO2⟩ : Nonempty (Hid (w3.ownsRow S 3 1 v2 (O1 ++ [x]).length ((O1 ++ [x]).map intV) ∧ Below S w1 w3)) := ⟨R⟩
              have hSw3 : S ≤ w3.heap.size := by rw [← show w1.heap.size = S from hS.out]; exact R.2.size
              obtain ⟨O2, hO2⟩ : ∃ O, Hid (O1 ++ [x] = O) := ⟨_, show _ = _ from rfl⟩
              have hl2 : O2.length ≤ 9 := by rw [← hO2.out]; simp; omega
              rw [show O1 ++ [x] = O2 from hO2.out] at HO2
              clear hown' hgrow R HO1
              have hx := H1.out.on' HO2.out.2 HLT.out
              obtain ⟨a0, a1, a2, a3, a4⟩ := hx.arg
              obtain ⟨HB3⟩ : Nonempty (Hid (Below w.heap.size w w3)) := ⟨by rw [show w.heap.size = B from hB.out]; exact hx.2.2⟩
              obtain ⟨O3, hO3⟩ : ∃ O, Hid (O2 ++ (T.drop k) = O) := ⟨_, show _ = _ from rfl⟩
              clear hx
              go_wp2_with (at_builtin; refine wp_addAll1 rfl _ _ 22 rfl S 3 i0 Tryz.underlying22 hi hz0 hz1 hz2 _ O2 rfl HO2.out.1 _ (T.drop k) _ _ rfl (by first | rfl | (simp; done) | (simp; omega)) (by exact .inr ⟨⟨qb, qo + k, rfl⟩, by omega, by omega⟩) (by exact ints_drop1 (HK.out.2.1.below HB3.out) k) O3 hO3 (by simp; omega) hSw3 ?_)
              intro v3 w4 ho3 hb4
              obtain ⟨p1, cp1, rfl, k1, hi1, hf1⟩ := own_kind' ho3
              have hx := H1.out.on' (HO2.out.2.trans hb4) HLT.out
              obtain ⟨H2⟩ : Nonempty (Hid (AX w w4 B _ _ ∧ Ints w4 p1 O3 ∧ Kind1 p1 O3.length cp1 ∧ (∀ b o, p1 = some ⟨b, o, none⟩ → B + 1 < b))) := ⟨⟨hx, hi1, k1, fun b o e => by have := hf1 b o e; have := HLT.out; omega⟩⟩
              clear a0 a1 a2 a3 a4
              obtain ⟨a0, a1, a2, a3, a4⟩ := hx.arg
              obtain ⟨r0, r1, r2, r3, r4⟩ := hx.res
              have z4 := (hx.soft 4).1
              have y0 := (hx.soft 0).2
              have y1 := (hx.soft 1).2
              have y2 := (hx.soft 2).2
              have y3 := (hx.soft 3).2
              have y4 := (hx.soft 4).2
              clear ho3 hb4 k1 hi1 hf1 hx HO2
              go_wp2_with fail
              obtain ⟨HX, j1, k1, n1⟩ := H2.out
              have n1' : ∀ b o, p1 = some ⟨b, o, none⟩ → B < b := fun b o e => by have := n1 b o e; omega
              have eA : ta = ⟨P, f, m, o, O3⟩ := by
                rw [HT.out.2, ← hO3.out, ← hO2.out, ← hO1.out]
                simp
              have hbE := (((((HX.2.2.setCell (p := ⟨B, 4, none⟩) (by simp) (.slice p1 O3.length cp1)).setCell (p := ⟨B + 1, 0, none⟩) (by simp) (.slice p P.length cp)).setCell (p := ⟨B + 1, 1, none⟩) (by simp) (.int .i64 f)).setCell (p := ⟨B + 1, 2, none⟩) (by simp) (.int .i64 m)).setCell (p := ⟨B + 1, 3, none⟩) (by simp) (.int .i64 o)).setCell (p := ⟨B + 1, 4, none⟩) (by simp) (.slice p1 O3.length cp1)
              refine bodyPost_ret (v := .tuple #[.agg #[.slice p P.length cp, .int .i64 f, .int .i64 m, .int .i64 o, .slice p1 O3.length cp1], .int .i64 0]) (by simp [results, Tryz.results25, go_sem, r0, r1, r2, r3, r4]) rfl ⟨⟨_, by rw [HT.out.1], ?_⟩, ?_⟩
              · rw [HTR.out.1 HT.out.1, eA]
                refine ⟨p, cp, p1, cp1, rfl, ?_, ?_, HK.out.2.2.1, k1, fun b o e h => .inl (HLO.out.1 b o e h), fun b o e h => .inr (by have := n1 b o e; have hh := hB.out; omega)⟩
                · exact HK.out.1.below (by rw [show w.heap.size = B from hB.out]; exact hbE)
                · exact (((((j1.set n1' _ _).set n1 _ _).set n1 _ _).set n1 _ _).set n1 _ _).set n1 _ _
              · first | exact hbE | (rw [show w.heap.size = B from hB.out]; exact hbE)
set_option linter.unusedVariables false in
set_option maxRecDepth 100000 in
set_option maxHeartbeats 4000000 in
theorem rLeadOf_in (v : Value) (A : At) (x n : Int) (Lo : Nat → Prop) (w : World) (hL : AttrLp w v A Lo) (hA : RightA A) (hb : ¬ (x < 1 ∨ 1000 < x ∨ n < 0 ∨ 12 < n)) (hn : ¬ 12 < (A.path.length : Int) + n) :
    Calls Tryz.prog 24 #[v, .int .i64 x, .int .i64 n] w fun r w' => (∃ v', r = .returned (.tuple #[v', .int .i64 (leadC A x n)]) ∧ AttrHp w' v' (leadA A x n) Lo w.heap.size) ∧ Below w.heap.size w w' := by
  have h := hL.attrK
  have e0 : (faultA A).1 = 0 := by rw [fault_of_right hA]
  have HC : Hid (∀ w', Below w.heap.size w w' → Calls _ _ _ _ _) := fun w' hb => rAttrFault_any v A w' (h.attr.below hb) (by have := hA.path; omega) (by have := hA.tags; omega) 0 (-1) (fault_of_right hA)
  have e1 : leadC A x n = 0 := by unfold leadC; rw [if_neg (by omega), if_neg hb, if_neg hn]
  rw [e1]
  have g1 : decide (x < 1) = false := decide_eq_false (by omega)
  have g2 : decide (1000 < x) = false := decide_eq_false (by omega)
  have hpl := hA.path
  obtain ⟨N, rfl⟩ : ∃ N : Nat, n = (N : Int) := ⟨n.toNat, by omega⟩
  have g3 : decide ((N : Int) < 0) = false := decide_eq_false (by omega)
  have g4 : decide (12 < (N : Int)) = false := decide_eq_false (by omega)
  have hN : N ≤ 12 := by omega
  have g5 : IntKind.i64.wrap ((A.path.length : Int) + N) = (A.path.length : Int) + N := wrapi _ (by omega)
  have g6 : decide (12 < (A.path.length : Int) + N) = false := decide_eq_false hn
  obtain ⟨i0, hi, hz0, hz1, hz2⟩ := info_parts infoInt
  obtain ⟨p, cp, q, cq, rfl, i1, i2, k1, k2, l1, l2⟩ := hL
  clear h
  obtain ⟨P, f, m, o, T⟩ := A
  simp only at *
  obtain ⟨HK⟩ : Nonempty (Hid (Ints w p P ∧ Ints w q T ∧ Kind1 p P.length cp ∧ Kind1 q T.length cq)) := ⟨⟨i1, i2, k1, k2⟩⟩
  obtain ⟨HLO⟩ : Nonempty (Hid (∀ b o, q = some ⟨b, o, none⟩ → 0 < T.length → Lo b)) := ⟨l2⟩
  clear l1 l2
  clear hA e0 e1 hb i1 i2 k1 k2 hn
  have hfd := field_code 0 (-1)
  go_enter Tryz.func24, Tryz.ntmps24
  go_wp2_with fail
  refine (HC.out _ (below_two _ _ _)).mono ?_
  rintro e w1 ⟨rfl, hb1⟩
  have hx := (ax_start w _ _).on hb1
  obtain ⟨H1⟩ : Nonempty (Hid (AX w w1 w.heap.size _ _)) := ⟨hx⟩
  obtain ⟨a0, a1, a2, a3, a4⟩ := hx.arg
  obtain ⟨B, hB⟩ : ∃ B, Hid (w.heap.size = B) := ⟨_, show _ = _ from rfl⟩
  rw [show w.heap.size = B from hB.out] at a0 a1 a2 a3 a4 H1 ⊢
  clear hb1 HC hx
  go_wp2_with fail
  obtain ⟨S, hS⟩ : ∃ S, Hid (w1.heap.size = S) := ⟨_, show _ = _ from rfl⟩
  obtain ⟨HLT⟩ : Nonempty (Hid (B + 1 < S)) := ⟨by rw [← show w1.heap.size = S from hS.out]; exact (Array.getElem?_eq_some_iff.1 H1.out.2.1).1⟩
  clear a0 a1 a2 a3 a4
  go_loopw [9, 10] (fun v i wr => ∃ (k : Nat) (done : List Int), i = .int .i64 k ∧ k ≤ N ∧ Hid (List.replicate k x = done) ∧ wr.ownsRow S 3 1 v done.length (done.map intV) ∧ Below S w1 wr) (fun _ i _ => N - (intOf i).toNat)
  case atStart => exact ⟨0, [], rfl, Nat.zero_le _, rfl, World.ownsRow_nil _ _ _ _, Below.refl _ _⟩
  case round =>
    obtain ⟨k, done, rfl, hkN, HD, hown, hnx⟩ := hrel
    have hSw : S ≤ wr.heap.size := by rw [← show w1.heap.size = S from hS.out]; exact hnx.size
    have hdl : done.length = k := by rw [← HD.out]; simp
    by_cases hlt : k < N
    · obtain ⟨HN⟩ : Nonempty (Hid (List.replicate (k + 1) x = done ++ [x])) := ⟨by show _ = _; rw [List.replicate_succ', HD.out]⟩
      go_wp2_with (at_builtin; refine wpList_append_own _ rfl _ _ 22 rfl S 3 i0 (.int .i64 0) 1 8 Tryz.underlying22 hi hz0 hz1 hz2 rfl (by decide) _ _ _ rfl (hown.alloc _) ⟨wr.heap.size, 0, none⟩ 1 1 [intV x] rfl rfl ?c1 ?c2 ?c3 ?c4 ?c5 ?_)
      case c1 =>
        intro j u hj
        match j, hj with
        | 0, hj => simp at hj; subst hj; simp [Addr.add, intV]
      case c2 => intro u hu; simp at hu; subst hu; rfl
      case c3 => unfold maxLen; omega
      case c4 => omega
      case c5 => simp; omega
      intro v' w2 hown' hgrow _
      have R := rel_int (x := x) hSw hown hnx (by rw [hdl]; exact hown') hgrow
      clear hown' hgrow hown hnx
      go_wp2_with fail
      go_roundw
      case rel => exact ⟨k + 1, done ++ [x], by go_num, by omega, HN, R.1, R.2⟩
      case measure => simp [intOf]; omega
    · obtain rfl : k = N := by omega
      have hx := H1.out.on' hnx HLT.out
      obtain ⟨HX⟩ : Nonempty (Hid (AX w wr B _ _)) := ⟨hx⟩
      obtain ⟨a0, a1, a2, a3, a4⟩ := hx.arg
      obtain ⟨HB0⟩ : Nonempty (Hid (Below w.heap.size w wr)) := ⟨by rw [show w.heap.size = B from hB.out]; exact hx.2.2⟩
      obtain ⟨O', hO'⟩ : ∃ O', Hid (done ++ P = O') := ⟨_, show _ = _ from rfl⟩
      clear hnx hx
      go_wp2_with (at_builtin; refine wp_addAll1 rfl _ _ 22 rfl S 3 i0 Tryz.underlying22 hi hz0 hz1 hz2 _ done rfl hown p P _ cp rfl rfl HK.out.2.2.1 (HK.out.1.below HB0.out) O' hO' (by omega) hSw ?_)
      intro v1 w2 ho1 hb1
      obtain ⟨p1, cp1, rfl, k1, hi1, hf1⟩ := own_kind' ho1
      have hx := HX.out.on' hb1 HLT.out
      obtain ⟨H2⟩ : Nonempty (Hid (AX w w2 B _ _ ∧ Ints w2 p1 O' ∧ Kind1 p1 O'.length cp1 ∧ (∀ b o, p1 = some ⟨b, o, none⟩ → B + 1 < b))) := ⟨⟨hx, hi1, k1, fun b o e => by have := hf1 b o e; have := HLT.out; omega⟩⟩
      clear a0 a1 a2 a3 a4
      obtain ⟨a0, a1, a2, a3, a4⟩ := hx.arg
      obtain ⟨r0, r1, r2, r3, r4⟩ := hx.res
      have z0 := (hx.soft 0).1
      have y0 := (hx.soft 0).2
      have y1 := (hx.soft 1).2
      have y2 := (hx.soft 2).2
      have y3 := (hx.soft 3).2
      have y4 := (hx.soft 4).2
      clear ho1 hb1 k1 hi1 hf1 hx HX hown
      go_wp2_with fail
      obtain ⟨HX, j1, k1, n1⟩ := H2.out
      have n1' : ∀ b o, p1 = some ⟨b, o, none⟩ → B < b := fun b o e => by have := n1 b o e; omega
      have eA : leadA ⟨P, f, m, o, T⟩ x (k : Int) = ⟨O', f, m, o, T⟩ := by
        unfold leadA
        simp only [Int.toNat_natCast]
        rw [HD.out, hO'.out]
      rw [eA]
      have hbE := (((((HX.2.2.setCell (p := ⟨B, 0, none⟩) (by simp) (.slice p1 O'.length cp1)).setCell (p := ⟨B + 1, 0, none⟩) (by simp) (.slice p1 O'.length cp1)).setCell (p := ⟨B + 1, 1, none⟩) (by simp) (.int .i64 f)).setCell (p := ⟨B + 1, 2, none⟩) (by simp) (.int .i64 m)).setCell (p := ⟨B + 1, 3, none⟩) (by simp) (.int .i64 o)).setCell (p := ⟨B + 1, 4, none⟩) (by simp) (.slice q T.length cq)
      refine bodyPost_ret (v := .tuple #[.agg #[.slice p1 O'.length cp1, .int .i64 f, .int .i64 m, .int .i64 o, .slice q T.length cq], .int .i64 0]) (by simp [results, Tryz.results24, go_sem, r0, r1, r2, r3, r4]) rfl ⟨⟨_, rfl, p1, cp1, q, cq, rfl, ?_, ?_, k1, HK.out.2.2.2, fun b o e h => .inr (by have := n1 b o e; have hh := hB.out; omega), fun b o e h => .inl (HLO.out b o e h)⟩, ?_⟩
      · exact (((((j1.set n1' _ _).set n1 _ _).set n1 _ _).set n1 _ _).set n1 _ _).set n1 _ _
      · exact HK.out.2.1.below (by rw [show w.heap.size = B from hB.out]; exact hbE)
      · first | exact hbE | (rw [show w.heap.size = B from hB.out]; exact hbE)
theorem rTagOf_p (v : Value) (A : At) (x : Int) (Lo : Nat → Prop) (w : World) (hL : AttrLp w v A Lo) (h1 : A.path.length ≤ 1000000) (h2 : A.tags.length ≤ 1000000) :
    Calls Tryz.prog 25 #[v, .int .i64 x] w fun r w' => (∃ v', r = .returned (.tuple #[v', .int .i64 (tagC A x)]) ∧ AttrHp w' v' (if tagC A x = 0 then tagA A x else noneA) Lo w.heap.size) ∧ Below w.heap.size w w' := by
  have hz : ∀ {w' : World} {v' : Value}, ¬ tagC A x = 0 → AttrK w' v' noneA → AttrHp w' v' (if tagC A x = 0 then tagA A x else noneA) Lo w.heap.size := fun h k => by rw [if_neg h]; exact attrHp_none k _ _
  rcases fault_sign A with hf | hf
  · have hA := right_of_fault (A := A) (by omega)
    by_cases hb : x < 1 ∨ 9999 < x
    · exact (rTagOf_bound v A x w hL.attrK hA hb).mono fun r w' ⟨⟨v', e, k⟩, b⟩ => ⟨⟨v', e, hz (by rw [tagC_bound hA hb]; decide) k⟩, b⟩
    · exact rTagOf_in v A x Lo w hL hA hb
  · exact (rTagOf_bad v A x w hL.attrK h1 h2 hf).mono fun r w' ⟨⟨v', e, k⟩, b⟩ => ⟨⟨v', e, hz (by unfold tagC; rw [if_pos hf]; omega) k⟩, b⟩
theorem rLeadOf_p (v : Value) (A : At) (x n : Int) (Lo : Nat → Prop) (w : World) (hL : AttrLp w v A Lo) (h1 : A.path.length ≤ 1000000) (h2 : A.tags.length ≤ 1000000) :
    Calls Tryz.prog 24 #[v, .int .i64 x, .int .i64 n] w fun r w' => (∃ v', r = .returned (.tuple #[v', .int .i64 (leadC A x n)]) ∧ AttrHp w' v' (if leadC A x n = 0 then leadA A x n else noneA) Lo w.heap.size) ∧ Below w.heap.size w w' := by
  have hz : ∀ {w' : World} {v' : Value}, ¬ leadC A x n = 0 → AttrK w' v' noneA → AttrHp w' v' (if leadC A x n = 0 then leadA A x n else noneA) Lo w.heap.size := fun h k => by rw [if_neg h]; exact attrHp_none k _ _
  rcases fault_sign A with hf | hf
  · have hA := right_of_fault (A := A) (by omega)
    by_cases hb : x < 1 ∨ 1000 < x ∨ n < 0 ∨ 12 < n
    · exact (rLeadOf_bound v A x n w hL.attrK hA hb).mono fun r w' ⟨⟨v', e, k⟩, b⟩ => ⟨⟨v', e, hz (by unfold leadC; rw [if_neg (by omega), if_pos hb]; decide) k⟩, b⟩
    · by_cases hn : 12 < (A.path.length : Int) + n
      · exact (rLeadOf_full v A x n w hL.attrK hA hb hn).mono fun r w' ⟨⟨v', e, k⟩, b⟩ => ⟨⟨v', e, hz (by unfold leadC; rw [if_neg (by omega), if_neg hb, if_pos hn]; decide) k⟩, b⟩
      · refine (rLeadOf_in v A x n Lo w hL hA hb hn).mono fun r w' ⟨⟨v', e, k⟩, b⟩ => ⟨⟨v', e, ?_⟩, b⟩
        rw [if_pos (by unfold leadC; rw [if_neg (by omega), if_neg hb, if_neg hn])]
        exact k
  · exact (rLeadOf_bad v A x n w hL.attrK h1 h2 hf).mono fun r w' ⟨⟨v', e, k⟩, b⟩ => ⟨⟨v', e, hz (by unfold leadC; rw [if_pos hf]; omega) k⟩, b⟩
theorem attrL_p {w : World} {v : Value} {A : At} {Lo : Nat} (h : AttrL w v A Lo) : AttrLp w v A (fun b => b < Lo) := h
theorem attrH_p {w : World} {v : Value} {A : At} {Lo Hi : Nat} (h : AttrHp w v A (fun b => b < Lo) Hi) : AttrH w v A Lo Hi := h
theorem rTagOf_any (v : Value) (A : At) (x : Int) (Lo : Nat) (w : World) (hL : AttrL w v A Lo) (h1 : A.path.length ≤ 1000000) (h2 : A.tags.length ≤ 1000000) :
    Calls Tryz.prog 25 #[v, .int .i64 x] w fun r w' => (∃ v', r = .returned (.tuple #[v', .int .i64 (tagC A x)]) ∧ AttrH w' v' (if tagC A x = 0 then tagA A x else noneA) Lo w.heap.size) ∧ Below w.heap.size w w' :=
  (rTagOf_p v A x _ w (attrL_p hL) h1 h2).mono fun _ _ ⟨⟨v', e, k⟩, b⟩ => ⟨⟨v', e, attrH_p k⟩, b⟩
theorem rLeadOf_any (v : Value) (A : At) (x n : Int) (Lo : Nat) (w : World) (hL : AttrL w v A Lo) (h1 : A.path.length ≤ 1000000) (h2 : A.tags.length ≤ 1000000) :
    Calls Tryz.prog 24 #[v, .int .i64 x, .int .i64 n] w fun r w' => (∃ v', r = .returned (.tuple #[v', .int .i64 (leadC A x n)]) ∧ AttrH w' v' (if leadC A x n = 0 then leadA A x n else noneA) Lo w.heap.size) ∧ Below w.heap.size w w' :=
  (rLeadOf_p v A x n _ w (attrL_p hL) h1 h2).mono fun _ _ ⟨⟨v', e, k⟩, b⟩ => ⟨⟨v', e, attrH_p k⟩, b⟩
end Go.Proofs.YtbfdgflbflajdaaGreatDoor
