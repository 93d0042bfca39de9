/-
  The document's text of an attribute (herepathref1.AttrText): what it returns.
-/
import Derived.Test.YtkebcfjofeoehaaGreatDoorAttrFault
import Derived.Test.YtkebcfjofeoehaaGreatDoorAttrList
namespace Go.Proofs.YtkebcfjofeoehaaGreatDoor
open Go.RowKit

/-- an attribute that is right. -/
structure RightA (A : At) : Prop where
  path : A.path.length ≤ 12
  tags : A.tags.length ≤ 8
  sys : ∀ x ∈ A.path, 1 ≤ x ∧ x ≤ 1000
  pref : 0 ≤ A.pref ∧ A.pref ≤ 1000
  med : 0 ≤ A.med ∧ A.med ≤ 1000
  org : 0 ≤ A.org ∧ A.org ≤ 2
  tag : ∀ x ∈ A.tags, 1 ≤ x ∧ x ≤ 9999
  rise : ∀ j (h : j + 1 < A.tags.length), A.tags[j] < A.tags[j + 1]
theorem right_of_fault {A : At} (h : (faultA A).1 ≤ 0) : RightA A := by
  unfold faultA at h
  split at h
  · exact absurd h (by simp)
  rename_i h1
  split at h
  · exact absurd h (by simp)
  rename_i h2
  split at h
  · exact absurd h (by simp)
  rename_i h3
  split at h
  · split at h <;> exact absurd h (by simp)
  rename_i h4
  simp only [fullA, Bool.or_eq_true, decide_eq_true_eq] at h1
  simp only [numsA, Bool.or_eq_true, decide_eq_true_eq] at h3
  have e2 : firstN (badP A.path) A.path.length = A.path.length := by have := (firstN_spec (badP A.path) A.path.length).1; omega
  have e4 : firstN (badT A.tags) A.tags.length = A.tags.length := by have := (firstN_spec (badT A.tags) A.tags.length).1; omega
  have p2 := (firstN_spec (badP A.path) A.path.length).2.1
  have p4 := (firstN_spec (badT A.tags) A.tags.length).2.1
  rw [e2] at p2
  rw [e4] at p4
  refine ⟨by omega, by omega, fun x hx => ?_, by omega, by omega, by omega, fun x hx => ?_, fun j hj => ?_⟩
  · obtain ⟨i, hi, rfl⟩ := List.getElem_of_mem hx
    have := p2 i hi
    unfold badP at this
    rw [getD_at hi] at this
    simp [outB] at this
    omega
  · obtain ⟨i, hi, rfl⟩ := List.getElem_of_mem hx
    have := p4 i hi
    unfold badT at this
    rw [getD_at hi] at this
    simp [outB] at this
    omega
  · have := p4 (j + 1) hj
    unfold badT at this
    rw [getD_at hj, show j + 1 - 1 = j from rfl, getD_at (show j < A.tags.length by omega)] at this
    simp [outB] at this
    omega
theorem fault_of_right {A : At} (h : RightA A) : faultA A = (0, -1) := by
  obtain ⟨h1, h2, h3, h4, h5, h6, h7, h8⟩ := h
  have n1 : ¬ fullA A = true := by simp only [fullA, Bool.or_eq_true, decide_eq_true_eq]; omega
  have n3 : ¬ numsA A = true := by simp only [numsA, Bool.or_eq_true, decide_eq_true_eq]; omega
  have n2 : ¬ firstN (badP A.path) A.path.length < A.path.length := by
    intro hl
    have := (firstN_spec (badP A.path) A.path.length).2.2 hl
    have hx := h3 _ (List.getElem_mem hl)
    generalize firstN (badP A.path) A.path.length = k at *
    unfold badP at this
    rw [getD_at hl] at this
    simp [outB] at this
    omega
  have n4 : ¬ firstN (badT A.tags) A.tags.length < A.tags.length := by
    intro hl
    have hb := (firstN_spec (badT A.tags) A.tags.length).2.2 hl
    have hx := h7 _ (List.getElem_mem hl)
    generalize firstN (badT A.tags) A.tags.length = k at *
    unfold badT at hb
    rw [getD_at hl] at hb
    cases k with
    | zero => simp [outB] at hb; omega
    | succ j =>
      rw [show j + 1 - 1 = j from rfl, getD_at (show j < A.tags.length by omega)] at hb
      have := h8 j hl
      simp [outB] at hb
      omega
  unfold faultA
  rw [if_neg n1, if_neg n2, if_neg n3, if_neg n4]
/-- the first fault's number is 0, or above it. -/
theorem fault_sign (A : At) : (faultA A).1 = 0 ∨ 0 < (faultA A).1 := by
  unfold faultA
  repeat' split
  all_goals simp

/-- the text of an attribute that is right. -/
def textA (A : At) : List UInt8 := joinN 45 A.path ++ [32] ++ Lib.itoa A.pref ++ [32] ++ Lib.itoa A.med ++ [32] ++ Lib.itoa A.org ++ [32] ++ joinN 44 A.tags

/-- an argument's copy, while a function runs. -/
def AB (w wr : World) (B : Nat) (va : Array Value) : Prop := wr.heap[B]? = some (.cells va 24 (0, 0)) ∧ Below B w wr
theorem AB.on {w wr w' : World} {B : Nat} {va : Array Value} (h : AB w wr B va) (hb : Below wr.heap.size wr w') : AB w w' B va := by
  obtain ⟨a, c⟩ := h
  have l1 := (Array.getElem?_eq_some_iff.1 a).1
  exact ⟨by rw [hb.block B l1]; exact a, c.trans (hb.mono (Nat.le_of_lt l1))⟩
theorem ab_start (w : World) (va : Array Value) : AB w (w.alloc (.cells va 24)) w.heap.size va := ⟨Go.heap_alloc_new w _, below_alloc _ _⟩
theorem AB.arg {w wr : World} {B : Nat} {a b c d e : Value} (h : AB w wr B #[a, b, c, d, e]) : wr.cell? ⟨B, 0, none⟩ = some a ∧ wr.cell? ⟨B, 1, none⟩ = some b ∧ wr.cell? ⟨B, 2, none⟩ = some c ∧ wr.cell? ⟨B, 3, none⟩ = some d ∧ wr.cell? ⟨B, 4, none⟩ = some e := by
  refine ⟨?_, ?_, ?_, ?_, ?_⟩ <;> simp [World.cell?, h.1]

theorem field_code (f0 f1 : Int) (w : World) : (Instr.field 43 (.agg #[.int .i64 f0, .int .i64 f1]) 0).run Tryz.prog w = .ok (.int .i64 f0) w := by kernel_rfl

set_option linter.unusedVariables false in
set_option maxRecDepth 100000 in
set_option maxHeartbeats 2000000 in
theorem rAttrText_bad (v : Value) (A : At) (w : World) (h : IsAttr w v A) (h1 : A.path.length ≤ 1000000) (h2 : A.tags.length ≤ 1000000) (hf : 0 < (faultA A).1) :
    Calls Tryz.prog 19 #[v] w fun r w' => r = .returned (.string ⟨#[]⟩) ∧ Below w.heap.size w w' := by
  obtain ⟨f0, hf0⟩ : ∃ x, Hid ((faultA A).1 = x) := ⟨_, show _ = _ from rfl⟩
  obtain ⟨f1, hf1⟩ : ∃ x, Hid ((faultA A).2 = x) := ⟨_, show _ = _ from rfl⟩
  have HF : Hid (faultA A = (f0, f1)) := by show _ = _; rw [← hf0.out, ← hf1.out]
  have hpos : 0 < f0 := by rw [← hf0.out]; exact hf
  have HC : Hid (∀ w', Below w.heap.size w w' → Calls _ _ _ _ _) := fun w' hb => rAttrFault_any v A w' (h.below hb) h1 h2 f0 f1 HF
  obtain ⟨p, cp, q, cq, rfl, i1, i2⟩ := h
  obtain ⟨P, f, m, o, T⟩ := A
  simp only at *
  clear i1 i2 hf HF hf0 hf1
  go_enter Tryz.func19, Tryz.ntmps19
  go_wp2_with fail
  refine (HC.out _ (below_alloc _ _)).mono ?_
  rintro e w1 ⟨rfl, hb1⟩
  obtain ⟨HB1⟩ : Nonempty (Hid (Below w.heap.size w w1)) := ⟨(below_alloc _ _).trans (hb1.mono (below_alloc _ _).size)⟩
  clear hb1 HC
  have hfd := field_code f0 f1
  go_wp2_with fail
  go_ret
  exact ⟨rfl, HB1.out⟩

set_option linter.unusedSimpArgs false in
set_option linter.unusedVariables false in
set_option maxRecDepth 100000 in
set_option maxHeartbeats 4000000 in
theorem rAttrText_right (v : Value) (A : At) (w : World) (h : IsAttr w v A) (hA : RightA A) :
    Calls Tryz.prog 19 #[v] w fun r w' => r = .returned (.string ⟨(textA A).toArray⟩) ∧ Below w.heap.size w w' := by
  have hs := h
  obtain ⟨p, cp, q, cq, rfl, i1, i2⟩ := h
  have HC : Hid (∀ w', Below w.heap.size w w' → Calls _ _ _ _ _) := fun w' hb => rAttrFault_any _ A w' (hs.below hb) (by have := hA.path; omega) (by have := hA.tags; omega) 0 (-1) (fault_of_right hA)
  have rp : ∀ x ∈ A.path, -9223372036854775807 ≤ x ∧ x ≤ 9223372036854775807 := fun x hx => by have := hA.sys x hx; omega
  have rt : ∀ x ∈ A.tags, -9223372036854775807 ≤ x ∧ x ≤ 9223372036854775807 := fun x hx => by have := hA.tag x hx; omega
  obtain ⟨t0, ht0⟩ : ∃ l, Hid (joinN 45 A.path = l) := ⟨_, show _ = _ from rfl⟩
  obtain ⟨t1, ht1⟩ : ∃ l, Hid (Lib.itoa A.pref = l) := ⟨_, show _ = _ from rfl⟩
  obtain ⟨t2, ht2⟩ : ∃ l, Hid (Lib.itoa A.med = l) := ⟨_, show _ = _ from rfl⟩
  obtain ⟨t3, ht3⟩ : ∃ l, Hid (Lib.itoa A.org = l) := ⟨_, show _ = _ from rfl⟩
  obtain ⟨t4, ht4⟩ : ∃ l, Hid (joinN 44 A.tags = l) := ⟨_, show _ = _ from rfl⟩
  have HP : Hid (∀ w', Below w.heap.size w w' → Calls Tryz.prog 48 #[.slice p A.path.length cp, .string ⟨#[45]⟩] w' fun r w'' => r = .returned (.string ⟨t0.toArray⟩) ∧ Below w'.heap.size w' w'') := fun w' hb => by
    rw [← ht0.out]; exact rList_any p A.path 45 _ cp w' (i1.below hb) rfl (by have := hA.path; omega) rp
  have HT : Hid (∀ w', Below w.heap.size w w' → Calls Tryz.prog 48 #[.slice q A.tags.length cq, .string ⟨#[44]⟩] w' fun r w'' => r = .returned (.string ⟨t4.toArray⟩) ∧ Below w'.heap.size w' w'') := fun w' hb => by
    rw [← ht4.out]; exact rList_any q A.tags 44 _ cq w' (i2.below hb) rfl (by have := hA.tags; omega) rt
  have H1 : Hid (∀ w', Calls _ _ _ _ _) := fun w' => rDecimal_l A.pref t1 ht1 (by have := hA.pref; omega) (by have := hA.pref; omega) w'
  have H2 : Hid (∀ w', Calls _ _ _ _ _) := fun w' => rDecimal_l A.med t2 ht2 (by have := hA.med; omega) (by have := hA.med; omega) w'
  have H3 : Hid (∀ w', Calls _ _ _ _ _) := fun w' => rDecimal_l A.org t3 ht3 (by have := hA.org; omega) (by have := hA.org; omega) w'
  have n0 : t0.length ≤ 300 := by rw [← ht0.out]; have := joinN_len 45 A.path rp; have := hA.path; omega
  have n4 : t4.length ≤ 300 := by rw [← ht4.out]; have := joinN_len 44 A.tags rt; have := hA.tags; omega
  have n1 : t1.length ≤ 21 := by rw [← ht1.out]; exact aItoa_len _ (by have := hA.pref; omega) (by have := hA.pref; omega)
  have n2 : t2.length ≤ 21 := by rw [← ht2.out]; exact aItoa_len _ (by have := hA.med; omega) (by have := hA.med; omega)
  have n3 : t3.length ≤ 21 := by rw [← ht3.out]; exact aItoa_len _ (by have := hA.org; omega) (by have := hA.org; omega)
  obtain ⟨s1, hs1⟩ : ∃ l, Hid (t0 ++ [32] = l) := ⟨_, show _ = _ from rfl⟩
  obtain ⟨s2, hs2⟩ : ∃ l, Hid (s1 ++ t1 = l) := ⟨_, show _ = _ from rfl⟩
  obtain ⟨s3, hs3⟩ : ∃ l, Hid (s2 ++ [32] = l) := ⟨_, show _ = _ from rfl⟩
  obtain ⟨s4, hs4⟩ : ∃ l, Hid (s3 ++ t2 = l) := ⟨_, show _ = _ from rfl⟩
  obtain ⟨s5, hs5⟩ : ∃ l, Hid (s4 ++ [32] = l) := ⟨_, show _ = _ from rfl⟩
  obtain ⟨s6, hs6⟩ : ∃ l, Hid (s5 ++ t3 = l) := ⟨_, show _ = _ from rfl⟩
  obtain ⟨s7, hs7⟩ : ∃ l, Hid (s6 ++ [32] = l) := ⟨_, show _ = _ from rfl⟩
  obtain ⟨s8, hs8⟩ : ∃ l, Hid (s7 ++ t4 = l) := ⟨_, show _ = _ from rfl⟩
  have e8 : textA A = s8 := by
    unfold textA
    rw [ht0.out, ht1.out, ht2.out, ht3.out, ht4.out, hs1.out, hs2.out, hs3.out, hs4.out, hs5.out, hs6.out, hs7.out, hs8.out]
  rw [e8]
  have m1 : s1.length ≤ 301 := by rw [← hs1.out]; simp; omega
  have m2 : s2.length ≤ 322 := by rw [← hs2.out]; simp; omega
  have m3 : s3.length ≤ 323 := by rw [← hs3.out]; simp; omega
  have m4 : s4.length ≤ 344 := by rw [← hs4.out]; simp; omega
  have m5 : s5.length ≤ 345 := by rw [← hs5.out]; simp; omega
  have m6 : s6.length ≤ 366 := by rw [← hs6.out]; simp; omega
  have m7 : s7.length ≤ 367 := by rw [← hs7.out]; simp; omega
  have qa1 : ∀ w, (Op.stringOp .add ⟨t0.toArray⟩ ⟨#[32]⟩).run Tryz.prog w = .ok (.string ⟨s1.toArray⟩) w := fun w => by rw [← hs1.out]; exact run_string_add_lists w t0 [32] (by omega) (by simp)
  have qa2 : ∀ w, (Op.stringOp .add ⟨s1.toArray⟩ ⟨t1.toArray⟩).run Tryz.prog w = .ok (.string ⟨s2.toArray⟩) w := fun w => by rw [← hs2.out]; exact run_string_add_lists w s1 t1 (by omega) (by omega)
  have qa3 : ∀ w, (Op.stringOp .add ⟨s2.toArray⟩ ⟨#[32]⟩).run Tryz.prog w = .ok (.string ⟨s3.toArray⟩) w := fun w => by rw [← hs3.out]; exact run_string_add_lists w s2 [32] (by omega) (by simp)
  have qa4 : ∀ w, (Op.stringOp .add ⟨s3.toArray⟩ ⟨t2.toArray⟩).run Tryz.prog w = .ok (.string ⟨s4.toArray⟩) w := fun w => by rw [← hs4.out]; exact run_string_add_lists w s3 t2 (by omega) (by omega)
  have qa5 : ∀ w, (Op.stringOp .add ⟨s4.toArray⟩ ⟨#[32]⟩).run Tryz.prog w = .ok (.string ⟨s5.toArray⟩) w := fun w => by rw [← hs5.out]; exact run_string_add_lists w s4 [32] (by omega) (by simp)
  have qa6 : ∀ w, (Op.stringOp .add ⟨s5.toArray⟩ ⟨t3.toArray⟩).run Tryz.prog w = .ok (.string ⟨s6.toArray⟩) w := fun w => by rw [← hs6.out]; exact run_string_add_lists w s5 t3 (by omega) (by omega)
  have qa7 : ∀ w, (Op.stringOp .add ⟨s6.toArray⟩ ⟨#[32]⟩).run Tryz.prog w = .ok (.string ⟨s7.toArray⟩) w := fun w => by rw [← hs7.out]; exact run_string_add_lists w s6 [32] (by omega) (by simp)
  have qa8 : ∀ w, (Op.stringOp .add ⟨s7.toArray⟩ ⟨t4.toArray⟩).run Tryz.prog w = .ok (.string ⟨s8.toArray⟩) w := fun w => by rw [← hs8.out]; exact run_string_add_lists w s7 t4 (by omega) (by omega)
  obtain ⟨HS⟩ : Nonempty (Hid (AB w _ _ _)) := ⟨ab_start w #[.slice p A.path.length cp, .int .i64 A.pref, .int .i64 A.med, .int .i64 A.org, .slice q A.tags.length cq]⟩
  obtain ⟨P, f, m, o, T⟩ := A
  simp only at *
  have hfd := field_code 0 (-1)
  clear n0 n1 n2 n3 n4 m1 m2 m3 m4 m5 m6 m7 e8 rp rt hA hs i1 i2
  go_enter Tryz.func19, Tryz.ntmps19
  go_wp2_with fail
  refine (HC.out _ (below_alloc _ _)).mono ?_
  rintro e w1 ⟨rfl, hb1⟩
  obtain ⟨HS1⟩ : Nonempty (Hid (AB w w1 w.heap.size _)) := ⟨HS.out.on hb1⟩
  obtain ⟨c0, c1, c2, c3, c4⟩ := HS1.out.arg
  clear hb1 HC HS
  -- the text's parts
  obtain ⟨HD⟩ : Nonempty (Hid (AB w w1.drew w.heap.size _)) := ⟨HS1.out.on (Below.refl _ _).drew⟩
  go_wp2_with fail
  refine wp_region_noPanic ?_
  refine wp_region_held_drew (S := (fun w' => w'.cell? ⟨w.heap.size, 0, none⟩ = some (.slice p P.length cp) ∧ w'.cell? ⟨w.heap.size, 1, none⟩ = some (.int .i64 f) ∧ w'.cell? ⟨w.heap.size, 2, none⟩ = some (.int .i64 m) ∧ w'.cell? ⟨w.heap.size, 3, none⟩ = some (.int .i64 o) ∧ w'.cell? ⟨w.heap.size, 4, none⟩ = some (.slice q T.length cq))) (by kernel_rfl) ?_ (fun hHeld => ?_)
  · exact HD.out.arg
  refine wpAnyH_take (i := 0) (v := ?_) rfl (by kernel_rfl) (by kernel_rfl) (by kernel_rfl) (fun _ _ _ h => h) (Or.inl ⟨by rfl, ?_⟩) (by assumption) ?_
  rotate_left
  · (intro w hSw; (try dsimp only at hSw); go_simp; try (with_reducible rfl))
  try simp only [Act.put, List.setIfInBounds_toArray, List.set_cons_zero, List.set_cons_succ, List.getElem_toArray, List.getElem_cons_zero, List.getElem_cons_succ]
  refine wpAnyH_take (i := 1) (v := ?_) rfl (by kernel_rfl) (by kernel_rfl) (by kernel_rfl) (fun _ _ _ h => h) (Or.inl ⟨by rfl, ?_⟩) (by assumption) ?_
  rotate_left
  · (intro w hSw; (try dsimp only at hSw); go_simp; try (with_reducible rfl))
  try simp only [Act.put, List.setIfInBounds_toArray, List.set_cons_zero, List.set_cons_succ, List.getElem_toArray, List.getElem_cons_zero, List.getElem_cons_succ]
  refine wpAnyH_take (i := 4) (v := ?_) rfl (by kernel_rfl) (by kernel_rfl) (by kernel_rfl) (fun _ _ _ h => h) (Or.inl ⟨by rfl, ?_⟩) (by assumption) ?_
  rotate_left
  · (intro w hSw; (try dsimp only at hSw); go_simp; try (with_reducible rfl))
  try simp only [Act.put, List.setIfInBounds_toArray, List.set_cons_zero, List.set_cons_succ, List.getElem_toArray, List.getElem_cons_zero, List.getElem_cons_succ]
  refine wpAnyH_take (i := 5) (v := ?_) rfl (by kernel_rfl) (by kernel_rfl) (by kernel_rfl) (fun _ _ _ h => h) (Or.inl ⟨by rfl, ?_⟩) (by assumption) ?_
  rotate_left
  · (intro w hSw; (try dsimp only at hSw); go_simp; try (with_reducible rfl))
  try simp only [Act.put, List.setIfInBounds_toArray, List.set_cons_zero, List.set_cons_succ, List.getElem_toArray, List.getElem_cons_zero, List.getElem_cons_succ]
  refine wpAnyH_take (i := 9) (v := ?_) rfl (by kernel_rfl) (by kernel_rfl) (by kernel_rfl) (fun _ _ _ h => h) (Or.inl ⟨by rfl, ?_⟩) (by assumption) ?_
  rotate_left
  · (intro w hSw; (try dsimp only at hSw); go_simp; try (with_reducible rfl))
  try simp only [Act.put, List.setIfInBounds_toArray, List.set_cons_zero, List.set_cons_succ, List.getElem_toArray, List.getElem_cons_zero, List.getElem_cons_succ]
  refine wpAnyH_take (i := 10) (v := ?_) rfl (by kernel_rfl) (by kernel_rfl) (by kernel_rfl) (fun _ _ _ h => h) (Or.inl ⟨by rfl, ?_⟩) (by assumption) ?_
  rotate_left
  · (intro w hSw; (try dsimp only at hSw); go_simp; try (with_reducible rfl))
  try simp only [Act.put, List.setIfInBounds_toArray, List.set_cons_zero, List.set_cons_succ, List.getElem_toArray, List.getElem_cons_zero, List.getElem_cons_succ]
  refine wpAnyH_take (i := 14) (v := ?_) rfl (by kernel_rfl) (by kernel_rfl) (by kernel_rfl) (fun _ _ _ h => h) (Or.inl ⟨by rfl, ?_⟩) (by assumption) ?_
  rotate_left
  · (intro w hSw; (try dsimp only at hSw); go_simp; try (with_reducible rfl))
  try simp only [Act.put, List.setIfInBounds_toArray, List.set_cons_zero, List.set_cons_succ, List.getElem_toArray, List.getElem_cons_zero, List.getElem_cons_succ]
  refine wpAnyH_take (i := 15) (v := ?_) rfl (by kernel_rfl) (by kernel_rfl) (by kernel_rfl) (fun _ _ _ h => h) (Or.inl ⟨by rfl, ?_⟩) (by assumption) ?_
  rotate_left
  · (intro w hSw; (try dsimp only at hSw); go_simp; try (with_reducible rfl))
  try simp only [Act.put, List.setIfInBounds_toArray, List.set_cons_zero, List.set_cons_succ, List.getElem_toArray, List.getElem_cons_zero, List.getElem_cons_succ]
  refine wpAnyH_take (i := 19) (v := ?_) rfl (by kernel_rfl) (by kernel_rfl) (by kernel_rfl) (fun _ _ _ h => h) (Or.inl ⟨by rfl, ?_⟩) (by assumption) ?_
  rotate_left
  · (intro w hSw; (try dsimp only at hSw); go_simp; try (with_reducible rfl))
  try simp only [Act.put, List.setIfInBounds_toArray, List.set_cons_zero, List.set_cons_succ, List.getElem_toArray, List.getElem_cons_zero, List.getElem_cons_succ]
  refine wpAnyH_take (i := 20) (v := ?_) rfl (by kernel_rfl) (by kernel_rfl) (by kernel_rfl) (fun _ _ _ h => h) (Or.inl ⟨by rfl, ?_⟩) (by assumption) ?_
  rotate_left
  · (intro w hSw; (try dsimp only at hSw); go_simp; try (with_reducible rfl))
  try simp only [Act.put, List.setIfInBounds_toArray, List.set_cons_zero, List.set_cons_succ, List.getElem_toArray, List.getElem_cons_zero, List.getElem_cons_succ]
  refine wpAnyH_ready (rs := [2]) (by kernel_rfl) (by simp) ?_
  refine AllReadyH.cons rfl (fun K hK => ?_) AllReadyH.nil
  go_simp
  refine (HP.out _ HD.out.2).mono ?_
  rintro e w2 ⟨rfl, hb1⟩
  obtain ⟨HS2⟩ : Nonempty (Hid (AB w w2 w.heap.size _)) := ⟨HD.out.on hb1⟩
  clear hb1
  refine hK.out _ _ ?_ (fun hHeld => ?_)
  · exact HS2.out.arg
  clear hK K
  try simp only [Act.put, List.setIfInBounds_toArray, List.set_cons_zero, List.set_cons_succ, List.getElem_toArray, List.getElem_cons_zero, List.getElem_cons_succ]
  refine wpAnyH_take (i := 3) (v := ?_) rfl (by kernel_rfl) (by kernel_rfl) (by kernel_rfl) (fun _ _ _ h => h) (Or.inl ⟨by rfl, ?_⟩) (by assumption) ?_
  rotate_left
  · (intro w hSw; (try dsimp only at hSw); go_simp; try (with_reducible rfl))
  try simp only [Act.put, List.setIfInBounds_toArray, List.set_cons_zero, List.set_cons_succ, List.getElem_toArray, List.getElem_cons_zero, List.getElem_cons_succ]
  refine wpAnyH_ready (rs := [6]) (by kernel_rfl) (by simp) ?_
  refine AllReadyH.cons rfl (fun K hK => ?_) AllReadyH.nil
  go_simp
  refine (H1.out _).mono ?_
  rintro e w3 ⟨rfl, hb1⟩
  obtain ⟨HS3⟩ : Nonempty (Hid (AB w w3 w.heap.size _)) := ⟨HS2.out.on hb1⟩
  clear hb1
  refine hK.out _ _ ?_ (fun hHeld => ?_)
  · exact HS3.out.arg
  clear hK K
  try simp only [Act.put, List.setIfInBounds_toArray, List.set_cons_zero, List.set_cons_succ, List.getElem_toArray, List.getElem_cons_zero, List.getElem_cons_succ]
  refine wpAnyH_take (i := 7) (v := ?_) rfl (by kernel_rfl) (by kernel_rfl) (by kernel_rfl) (fun _ _ _ h => h) (Or.inl ⟨by rfl, ?_⟩) (by assumption) ?_
  rotate_left
  · (intro w hSw; (try dsimp only at hSw); go_simp; try (with_reducible rfl))
  try simp only [Act.put, List.setIfInBounds_toArray, List.set_cons_zero, List.set_cons_succ, List.getElem_toArray, List.getElem_cons_zero, List.getElem_cons_succ]
  refine wpAnyH_take (i := 8) (v := ?_) rfl (by kernel_rfl) (by kernel_rfl) (by kernel_rfl) (fun _ _ _ h => h) (Or.inl ⟨by rfl, ?_⟩) (by assumption) ?_
  rotate_left
  · (intro w hSw; (try dsimp only at hSw); go_simp; try (with_reducible rfl))
  try simp only [Act.put, List.setIfInBounds_toArray, List.set_cons_zero, List.set_cons_succ, List.getElem_toArray, List.getElem_cons_zero, List.getElem_cons_succ]
  refine wpAnyH_ready (rs := [11]) (by kernel_rfl) (by simp) ?_
  refine AllReadyH.cons rfl (fun K hK => ?_) AllReadyH.nil
  go_simp
  refine (H2.out _).mono ?_
  rintro e w4 ⟨rfl, hb1⟩
  obtain ⟨HS4⟩ : Nonempty (Hid (AB w w4 w.heap.size _)) := ⟨HS3.out.on hb1⟩
  clear hb1
  refine hK.out _ _ ?_ (fun hHeld => ?_)
  · exact HS4.out.arg
  clear hK K
  try simp only [Act.put, List.setIfInBounds_toArray, List.set_cons_zero, List.set_cons_succ, List.getElem_toArray, List.getElem_cons_zero, List.getElem_cons_succ]
  refine wpAnyH_take (i := 12) (v := ?_) rfl (by kernel_rfl) (by kernel_rfl) (by kernel_rfl) (fun _ _ _ h => h) (Or.inl ⟨by rfl, ?_⟩) (by assumption) ?_
  rotate_left
  · (intro w hSw; (try dsimp only at hSw); go_simp; try (with_reducible rfl))
  try simp only [Act.put, List.setIfInBounds_toArray, List.set_cons_zero, List.set_cons_succ, List.getElem_toArray, List.getElem_cons_zero, List.getElem_cons_succ]
  refine wpAnyH_take (i := 13) (v := ?_) rfl (by kernel_rfl) (by kernel_rfl) (by kernel_rfl) (fun _ _ _ h => h) (Or.inl ⟨by rfl, ?_⟩) (by assumption) ?_
  rotate_left
  · (intro w hSw; (try dsimp only at hSw); go_simp; try (with_reducible rfl))
  try simp only [Act.put, List.setIfInBounds_toArray, List.set_cons_zero, List.set_cons_succ, List.getElem_toArray, List.getElem_cons_zero, List.getElem_cons_succ]
  refine wpAnyH_ready (rs := [16]) (by kernel_rfl) (by simp) ?_
  refine AllReadyH.cons rfl (fun K hK => ?_) AllReadyH.nil
  go_simp
  refine (H3.out _).mono ?_
  rintro e w5 ⟨rfl, hb1⟩
  obtain ⟨HS5⟩ : Nonempty (Hid (AB w w5 w.heap.size _)) := ⟨HS4.out.on hb1⟩
  clear hb1
  refine hK.out _ _ ?_ (fun hHeld => ?_)
  · exact HS5.out.arg
  clear hK K
  try simp only [Act.put, List.setIfInBounds_toArray, List.set_cons_zero, List.set_cons_succ, List.getElem_toArray, List.getElem_cons_zero, List.getElem_cons_succ]
  refine wpAnyH_take (i := 17) (v := ?_) rfl (by kernel_rfl) (by kernel_rfl) (by kernel_rfl) (fun _ _ _ h => h) (Or.inl ⟨by rfl, ?_⟩) (by assumption) ?_
  rotate_left
  · (intro w hSw; (try dsimp only at hSw); go_simp; try (with_reducible rfl))
  try simp only [Act.put, List.setIfInBounds_toArray, List.set_cons_zero, List.set_cons_succ, List.getElem_toArray, List.getElem_cons_zero, List.getElem_cons_succ]
  refine wpAnyH_take (i := 18) (v := ?_) rfl (by kernel_rfl) (by kernel_rfl) (by kernel_rfl) (fun _ _ _ h => h) (Or.inl ⟨by rfl, ?_⟩) (by assumption) ?_
  rotate_left
  · (intro w hSw; (try dsimp only at hSw); go_simp; try (with_reducible rfl))
  try simp only [Act.put, List.setIfInBounds_toArray, List.set_cons_zero, List.set_cons_succ, List.getElem_toArray, List.getElem_cons_zero, List.getElem_cons_succ]
  refine wpAnyH_ready (rs := [21]) (by kernel_rfl) (by simp) ?_
  refine AllReadyH.cons rfl (fun K hK => ?_) AllReadyH.nil
  go_simp
  refine (HT.out _ HS5.out.2).mono ?_
  rintro e w6 ⟨rfl, hb1⟩
  obtain ⟨HS6⟩ : Nonempty (Hid (AB w w6 w.heap.size _)) := ⟨HS5.out.on hb1⟩
  clear hb1
  refine hK.out _ _ ?_ (fun hHeld => ?_)
  · exact HS6.out.arg
  clear hK K
  try simp only [Act.put, List.setIfInBounds_toArray, List.set_cons_zero, List.set_cons_succ, List.getElem_toArray, List.getElem_cons_zero, List.getElem_cons_succ]
  refine wpAnyH_take (i := 22) (v := ?_) rfl (by kernel_rfl) (by kernel_rfl) (by kernel_rfl) (fun _ _ _ h => h) (Or.inl ⟨by rfl, ?_⟩) (by assumption) ?_
  rotate_left
  · (intro w hSw; (try dsimp only at hSw); go_simp; try (with_reducible rfl))
  try simp only [Act.put, List.setIfInBounds_toArray, List.set_cons_zero, List.set_cons_succ, List.getElem_toArray, List.getElem_cons_zero, List.getElem_cons_succ]
  refine wpAnyH_take (i := 23) (v := ?_) rfl (by kernel_rfl) (by kernel_rfl) (by kernel_rfl) (fun _ _ _ h => h) (Or.inl ⟨by rfl, ?_⟩) (by assumption) ?_
  rotate_left
  · (intro w hSw; (try dsimp only at hSw); go_simp; try (with_reducible rfl))
  try simp only [Act.put, List.setIfInBounds_toArray, List.set_cons_zero, List.set_cons_succ, List.getElem_toArray, List.getElem_cons_zero, List.getElem_cons_succ]
  refine wpAnyH_done (by kernel_rfl) ?_ _
  refine NoPanic.normal ?_
  clear hHeld c0 c1 c2 c3 c4
  go_wp2_with fail
  go_ret
  exact ⟨rfl, HS6.out.2⟩
end Go.Proofs.YtkebcfjofeoehaaGreatDoor
