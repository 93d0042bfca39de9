/-
  Package attr's changed at an attribute that is right, and a change with one variable captured.
  Package attr's changed at an attribute that is right, and a change with two variables captured.
  Package attr's Lead and Tag: what they return.
  The law's closed fact (herepathlaw1.told).
  A path that is led, a tag that is put among others: plain mathematics.
-/
import Derived.Test.YtbfdgflbflajdaaGreatDoorHC
import Derived.Test.YtbfdgflbflajdaaGreatDoorAttrTag1
import Derived.Test.YtbfdgflbflajdaaGreatDoorAttrRead
namespace Go.Proofs.YtbfdgflbflajdaaGreatDoor
open Go.RowKit

set_option linter.unusedSimpArgs false in
set_option linter.unusedVariables false in
set_option maxRecDepth 100000 in
set_option maxHeartbeats 4000000 in
theorem changed_right1 (v : Value) (A A' : At) (f : Nat) (kv1 : Value) (c : Nat) (E : Nat → Addr) (m : Int) (w : World) (hE : AttrEnv w E m) (h : AttrK w v A) (hA : RightA A) (hq : Changer1 f kv1 E c A A' w) :
    Calls Tryz.prog 44 #[v, .func (.func f) #[] #[kv1]] w fun r w' => (∃ v', r = .returned (.tuple #[v', ev E c]) ∧ AttrG w' v' (if c = 0 then A' else noneA) w.heap.size) ∧ Below w.heap.size w w' := by
  have HC : Hid (∀ w', Below w.heap.size w w' → Calls _ _ _ _ _) := fun w' hb => aCheck_any v A E m w' (hE.below hb) (h.attr.below hb) (by have := hA.path; omega) (by have := hA.tags; omega)
  rw [fault_of_right hA] at HC
  have HCO : Hid (∀ w', Below w.heap.size w w' → Calls _ _ _ _ _) := fun w' hb => copy_any v A w' (h.below hb) (by have := hA.path; omega) (by have := hA.tags; omega)
  obtain ⟨p, cp, q, cq, rfl, -, -, -, -⟩ := h
  have heg := hq.enters
  obtain ⟨HQ⟩ : Nonempty (Hid (Changer1 f kv1 E c A A' w)) := ⟨hq⟩
  obtain ⟨B, hB⟩ : ∃ B, Hid (w.heap.size = B) := ⟨_, show _ = _ from rfl⟩
  obtain ⟨P, f0, n, o, T⟩ := A
  simp only at *
  clear hA hE hq
  go_enter Tryz.func44, Tryz.ntmps44
  go_wp2_with fail
  refine (HC.out _ (below_two _ _ _)).mono ?_
  rintro e w1 ⟨⟨v1, rfl, hv1⟩, hb1⟩
  rcases isErr_cases hv1 with ⟨-, rfl⟩ | ⟨h0, -⟩
  case inr => exact absurd h0 (by simp)
  obtain ⟨HA1⟩ : Nonempty (Hid (AX w w1 w.heap.size _ _)) := ⟨(ax_start w _ _).on hb1⟩
  obtain ⟨a0, a1, a2, a3, a4⟩ := HA1.out.arg
  clear hb1 HC hv1
  go_wp2_with fail
  refine (HCO.out _ HA1.out.2.2).mono ?_
  rintro e w2 ⟨⟨p1, c1, p2, c2, rfl, hcp⟩, hb2⟩
  obtain ⟨HA2⟩ : Nonempty (Hid (AX w w2 w.heap.size _ _ ∧ w.heap.size + 2 ≤ w1.heap.size ∧ CP w2 w1.heap.size ⟨P, f0, n, o, T⟩ p1 c1 p2 c2 ∧ w1.heap.size ≤ w2.heap.size)) := ⟨⟨HA1.out.on hb2, (Array.getElem?_eq_some_iff.1 HA1.out.2.1).1, hcp, hb2.size⟩⟩
  clear hb2 hcp HCO HA1 a0 a1 a2 a3 a4
  rw [show w.heap.size = B from hB.out] at HA2 ⊢
  obtain ⟨L, hL⟩ : ∃ L, Hid (w1.heap.size = L) := ⟨_, show _ = _ from rfl⟩
  obtain ⟨C, hC⟩ : ∃ C, Hid (w2.heap.size = C) := ⟨_, show _ = _ from rfl⟩
  obtain ⟨W5, hW5⟩ : ∃ W5, Hid (w2.alloc (.cells #[.slice p1 P.length c1, .int .i64 f0, .int .i64 n, .int .i64 o, .slice p2 T.length c2] 24) = W5) := ⟨_, show _ = _ from rfl⟩
  obtain ⟨HW⟩ : Nonempty (Hid (AX w W5 B #[.slice p P.length cp, .int .i64 f0, .int .i64 n, .int .i64 o, .slice q T.length cq] #[.slice none 0 0, .int .i64 0, .int .i64 0, .int .i64 0, .slice none 0 0] ∧ AP W5 L C ⟨P, f0, n, o, T⟩ ∧ B + 2 ≤ L)) := ⟨by
    rw [← show w1.heap.size = L from hL.out, ← show w2.heap.size = C from hC.out, ← show _ = W5 from hW5.out]
    obtain ⟨h1, h2, h3, h4⟩ := HA2.out
    have hb := below_alloc w2 (.cells #[.slice p1 P.length c1, .int .i64 f0, .int .i64 n, .int .i64 o, .slice p2 T.length c2] 24)
    obtain ⟨i1, i2, k1, k2, n1, n2⟩ := cp_parts h3
    exact ⟨h1.on hb, ⟨p1, c1, p2, c2, Go.heap_alloc_new w2 _, cp_on h3 hb, fun b o e => Nat.ne_of_lt (n1 b o e).2, fun b o e => Nat.ne_of_lt (n2 b o e).2, h4⟩, h2⟩⟩
  go_wp2_with fail
  rw [show w2.alloc (.cells #[.slice p1 P.length c1, .int .i64 f0, .int .i64 n, .int .i64 o, .slice p2 T.length c2] 24) = W5 from hW5.out, show w2.heap.size = C from hC.out]
  obtain ⟨HQC⟩ : Nonempty (Hid (Calls _ _ _ _ _)) := ⟨HQ.out.says L C W5 (by have := HW.out.2.2; have := hB.out; omega) (by rw [show w.heap.size = B from hB.out]; exact HW.out.1.2.2) HW.out.2.1⟩
  clear HA2 hW5 hC hL
  cases c with
  | zero =>
    simp only [ev] at HQC
    refine HQC.out.mono ?_
    rintro e w3 ⟨rfl, hb3, har⟩
    obtain ⟨p3, c3, q3, d3, hh3, i1, i2, k1, k2, n1, n2⟩ := har (by first | rfl | trivial)
    obtain ⟨HX⟩ : Nonempty (Hid (AX w w3 B _ _ ∧ Ints w3 p3 A'.path ∧ Ints w3 q3 A'.tags ∧ Kind1 p3 A'.path.length c3 ∧ Kind1 q3 A'.tags.length d3 ∧ (∀ b o, p3 = some ⟨b, o, none⟩ → B + 1 < b) ∧ (∀ b o, q3 = some ⟨b, o, none⟩ → B + 1 < b))) := ⟨⟨HW.out.1.on' hb3 HW.out.2.2, i1, i2, k1, k2, fun b o e => by have := (n1 b o e).1; have := HW.out.2.2; omega, fun b o e => by have := (n2 b o e).1; have := HW.out.2.2; omega⟩⟩
    have a0 : w3.cell? ⟨C, 0, none⟩ = some (.slice p3 A'.path.length c3) := by simp [World.cell?, hh3]
    have a1 : w3.cell? ⟨C, 1, none⟩ = some (.int .i64 A'.pref) := by simp [World.cell?, hh3]
    have a2 : w3.cell? ⟨C, 2, none⟩ = some (.int .i64 A'.med) := by simp [World.cell?, hh3]
    have a3 : w3.cell? ⟨C, 3, none⟩ = some (.int .i64 A'.org) := by simp [World.cell?, hh3]
    have a4 : w3.cell? ⟨C, 4, none⟩ = some (.slice q3 A'.tags.length d3) := by simp [World.cell?, hh3]
    obtain ⟨r0, r1, r2, r3, r4⟩ := HX.out.1.res
    have y0 := (HX.out.1.soft 0).2
    have y1 := (HX.out.1.soft 1).2
    have y2 := (HX.out.1.soft 2).2
    have y3 := (HX.out.1.soft 3).2
    have y4 := (HX.out.1.soft 4).2
    clear hb3 har hh3 i1 i2 k1 k2 n1 n2 HQC
    go_wp2_with fail
    obtain ⟨hx, i1, i2, k1, k2, n1, n2⟩ := HX.out
    refine bodyPost_ret (v := .tuple #[.agg #[.slice p3 A'.path.length c3, .int .i64 A'.pref, .int .i64 A'.med, .int .i64 A'.org, .slice q3 A'.tags.length d3], .nilIface]) (by simp [results, Tryz.results44, go_sem, r0, r1, r2, r3, r4]) rfl ⟨⟨_, rfl, p3, c3, q3, d3, rfl, ?_, ?_, k1, k2, fun b o e => by have := n1 b o e; have := hB.out; omega, fun b o e => by have := n2 b o e; have := hB.out; omega⟩, by rw [show w.heap.size = B from hB.out]; exact setFive hx.2.2 (Nat.le_succ B) _ _ _ _ _⟩
    · exact ((((i1.set n1 _ _).set n1 _ _).set n1 _ _).set n1 _ _).set n1 _ _
    · exact ((((i2.set n2 _ _).set n2 _ _).set n2 _ _).set n2 _ _).set n2 _ _
  | succ c =>
    obtain ⟨u, hu⟩ : ∃ u, Hid (E c = u) := ⟨_, show _ = _ from rfl⟩
    simp only [ev] at HQC
    rw [show E c = u from hu.out] at HQC
    refine HQC.out.mono ?_
    rintro e w3 ⟨rfl, hb3, -⟩
    obtain ⟨HX⟩ : Nonempty (Hid (AX w w3 B _ _)) := ⟨HW.out.1.on' hb3 HW.out.2.2⟩
    obtain ⟨r0, r1, r2, r3, r4⟩ := HX.out.res
    have y0 := (HX.out.soft 0).2
    have y1 := (HX.out.soft 1).2
    have y2 := (HX.out.soft 2).2
    have y3 := (HX.out.soft 3).2
    have y4 := (HX.out.soft 4).2
    clear hb3 HQC
    go_wp2_with fail
    refine bodyPost_ret (v := .tuple #[.agg #[.slice none 0 0, .int .i64 0, .int .i64 0, .int .i64 0, .slice none 0 0], .iface 224 (.pointer (some u))]) (by simp [results, Tryz.results44, go_sem, r0, r1, r2, r3, r4]) rfl ⟨⟨_, by simp only [ev]; rw [hu.out], attrG_none _ _⟩, by rw [show w.heap.size = B from hB.out]; exact setFive HX.out.2.2 (Nat.le_succ B) _ _ _ _ _⟩
end Go.Proofs.YtbfdgflbflajdaaGreatDoor

namespace Go.Proofs.YtbfdgflbflajdaaGreatDoor
open Go.RowKit

set_option linter.unusedSimpArgs false in
set_option linter.unusedVariables false in
set_option maxRecDepth 100000 in
set_option maxHeartbeats 4000000 in
theorem changed_right2 (v : Value) (A A' : At) (f : Nat) (kv1 kv2 : Value) (c : Nat) (E : Nat → Addr) (m : Int) (w : World) (hE : AttrEnv w E m) (h : AttrK w v A) (hA : RightA A) (hq : Changer2 f kv1 kv2 E c A A' w) :
    Calls Tryz.prog 44 #[v, .func (.func f) #[] #[kv1, kv2]] w fun r w' => (∃ v', r = .returned (.tuple #[v', ev E c]) ∧ AttrG w' v' (if c = 0 then A' else noneA) w.heap.size) ∧ Below w.heap.size w w' := by
  have HC : Hid (∀ w', Below w.heap.size w w' → Calls _ _ _ _ _) := fun w' hb => aCheck_any v A E m w' (hE.below hb) (h.attr.below hb) (by have := hA.path; omega) (by have := hA.tags; omega)
  rw [fault_of_right hA] at HC
  have HCO : Hid (∀ w', Below w.heap.size w w' → Calls _ _ _ _ _) := fun w' hb => copy_any v A w' (h.below hb) (by have := hA.path; omega) (by have := hA.tags; omega)
  obtain ⟨p, cp, q, cq, rfl, -, -, -, -⟩ := h
  have heg := hq.enters
  obtain ⟨HQ⟩ : Nonempty (Hid (Changer2 f kv1 kv2 E c A A' w)) := ⟨hq⟩
  obtain ⟨B, hB⟩ : ∃ B, Hid (w.heap.size = B) := ⟨_, show _ = _ from rfl⟩
  obtain ⟨P, f0, n, o, T⟩ := A
  simp only at *
  clear hA hE hq
  go_enter Tryz.func44, Tryz.ntmps44
  go_wp2_with fail
  refine (HC.out _ (below_two _ _ _)).mono ?_
  rintro e w1 ⟨⟨v1, rfl, hv1⟩, hb1⟩
  rcases isErr_cases hv1 with ⟨-, rfl⟩ | ⟨h0, -⟩
  case inr => exact absurd h0 (by simp)
  obtain ⟨HA1⟩ : Nonempty (Hid (AX w w1 w.heap.size _ _)) := ⟨(ax_start w _ _).on hb1⟩
  obtain ⟨a0, a1, a2, a3, a4⟩ := HA1.out.arg
  clear hb1 HC hv1
  go_wp2_with fail
  refine (HCO.out _ HA1.out.2.2).mono ?_
  rintro e w2 ⟨⟨p1, c1, p2, c2, rfl, hcp⟩, hb2⟩
  obtain ⟨HA2⟩ : Nonempty (Hid (AX w w2 w.heap.size _ _ ∧ w.heap.size + 2 ≤ w1.heap.size ∧ CP w2 w1.heap.size ⟨P, f0, n, o, T⟩ p1 c1 p2 c2 ∧ w1.heap.size ≤ w2.heap.size)) := ⟨⟨HA1.out.on hb2, (Array.getElem?_eq_some_iff.1 HA1.out.2.1).1, hcp, hb2.size⟩⟩
  clear hb2 hcp HCO HA1 a0 a1 a2 a3 a4
  rw [show w.heap.size = B from hB.out] at HA2 ⊢
  obtain ⟨L, hL⟩ : ∃ L, Hid (w1.heap.size = L) := ⟨_, show _ = _ from rfl⟩
  obtain ⟨C, hC⟩ : ∃ C, Hid (w2.heap.size = C) := ⟨_, show _ = _ from rfl⟩
  obtain ⟨W5, hW5⟩ : ∃ W5, Hid (w2.alloc (.cells #[.slice p1 P.length c1, .int .i64 f0, .int .i64 n, .int .i64 o, .slice p2 T.length c2] 24) = W5) := ⟨_, show _ = _ from rfl⟩
  obtain ⟨HW⟩ : Nonempty (Hid (AX w W5 B #[.slice p P.length cp, .int .i64 f0, .int .i64 n, .int .i64 o, .slice q T.length cq] #[.slice none 0 0, .int .i64 0, .int .i64 0, .int .i64 0, .slice none 0 0] ∧ AP W5 L C ⟨P, f0, n, o, T⟩ ∧ B + 2 ≤ L)) := ⟨by
    rw [← show w1.heap.size = L from hL.out, ← show w2.heap.size = C from hC.out, ← show _ = W5 from hW5.out]
    obtain ⟨h1, h2, h3, h4⟩ := HA2.out
    have hb := below_alloc w2 (.cells #[.slice p1 P.length c1, .int .i64 f0, .int .i64 n, .int .i64 o, .slice p2 T.length c2] 24)
    obtain ⟨i1, i2, k1, k2, n1, n2⟩ := cp_parts h3
    exact ⟨h1.on hb, ⟨p1, c1, p2, c2, Go.heap_alloc_new w2 _, cp_on h3 hb, fun b o e => Nat.ne_of_lt (n1 b o e).2, fun b o e => Nat.ne_of_lt (n2 b o e).2, h4⟩, h2⟩⟩
  go_wp2_with fail
  rw [show w2.alloc (.cells #[.slice p1 P.length c1, .int .i64 f0, .int .i64 n, .int .i64 o, .slice p2 T.length c2] 24) = W5 from hW5.out, show w2.heap.size = C from hC.out]
  obtain ⟨HQC⟩ : Nonempty (Hid (Calls _ _ _ _ _)) := ⟨HQ.out.says L C W5 (by have := HW.out.2.2; have := hB.out; omega) (by rw [show w.heap.size = B from hB.out]; exact HW.out.1.2.2) HW.out.2.1⟩
  clear HA2 hW5 hC hL
  cases c with
  | zero =>
    simp only [ev] at HQC
    refine HQC.out.mono ?_
    rintro e w3 ⟨rfl, hb3, har⟩
    obtain ⟨p3, c3, q3, d3, hh3, i1, i2, k1, k2, n1, n2⟩ := har (by first | rfl | trivial)
    obtain ⟨HX⟩ : Nonempty (Hid (AX w w3 B _ _ ∧ Ints w3 p3 A'.path ∧ Ints w3 q3 A'.tags ∧ Kind1 p3 A'.path.length c3 ∧ Kind1 q3 A'.tags.length d3 ∧ (∀ b o, p3 = some ⟨b, o, none⟩ → B + 1 < b) ∧ (∀ b o, q3 = some ⟨b, o, none⟩ → B + 1 < b))) := ⟨⟨HW.out.1.on' hb3 HW.out.2.2, i1, i2, k1, k2, fun b o e => by have := (n1 b o e).1; have := HW.out.2.2; omega, fun b o e => by have := (n2 b o e).1; have := HW.out.2.2; omega⟩⟩
    have a0 : w3.cell? ⟨C, 0, none⟩ = some (.slice p3 A'.path.length c3) := by simp [World.cell?, hh3]
    have a1 : w3.cell? ⟨C, 1, none⟩ = some (.int .i64 A'.pref) := by simp [World.cell?, hh3]
    have a2 : w3.cell? ⟨C, 2, none⟩ = some (.int .i64 A'.med) := by simp [World.cell?, hh3]
    have a3 : w3.cell? ⟨C, 3, none⟩ = some (.int .i64 A'.org) := by simp [World.cell?, hh3]
    have a4 : w3.cell? ⟨C, 4, none⟩ = some (.slice q3 A'.tags.length d3) := by simp [World.cell?, hh3]
    obtain ⟨r0, r1, r2, r3, r4⟩ := HX.out.1.res
    have y0 := (HX.out.1.soft 0).2
    have y1 := (HX.out.1.soft 1).2
    have y2 := (HX.out.1.soft 2).2
    have y3 := (HX.out.1.soft 3).2
    have y4 := (HX.out.1.soft 4).2
    clear hb3 har hh3 i1 i2 k1 k2 n1 n2 HQC
    go_wp2_with fail
    obtain ⟨hx, i1, i2, k1, k2, n1, n2⟩ := HX.out
    refine bodyPost_ret (v := .tuple #[.agg #[.slice p3 A'.path.length c3, .int .i64 A'.pref, .int .i64 A'.med, .int .i64 A'.org, .slice q3 A'.tags.length d3], .nilIface]) (by simp [results, Tryz.results44, go_sem, r0, r1, r2, r3, r4]) rfl ⟨⟨_, rfl, p3, c3, q3, d3, rfl, ?_, ?_, k1, k2, fun b o e => by have := n1 b o e; have := hB.out; omega, fun b o e => by have := n2 b o e; have := hB.out; omega⟩, by rw [show w.heap.size = B from hB.out]; exact setFive hx.2.2 (Nat.le_succ B) _ _ _ _ _⟩
    · exact ((((i1.set n1 _ _).set n1 _ _).set n1 _ _).set n1 _ _).set n1 _ _
    · exact ((((i2.set n2 _ _).set n2 _ _).set n2 _ _).set n2 _ _).set n2 _ _
  | succ c =>
    obtain ⟨u, hu⟩ : ∃ u, Hid (E c = u) := ⟨_, show _ = _ from rfl⟩
    simp only [ev] at HQC
    rw [show E c = u from hu.out] at HQC
    refine HQC.out.mono ?_
    rintro e w3 ⟨rfl, hb3, -⟩
    obtain ⟨HX⟩ : Nonempty (Hid (AX w w3 B _ _)) := ⟨HW.out.1.on' hb3 HW.out.2.2⟩
    obtain ⟨r0, r1, r2, r3, r4⟩ := HX.out.res
    have y0 := (HX.out.soft 0).2
    have y1 := (HX.out.soft 1).2
    have y2 := (HX.out.soft 2).2
    have y3 := (HX.out.soft 3).2
    have y4 := (HX.out.soft 4).2
    clear hb3 HQC
    go_wp2_with fail
    refine bodyPost_ret (v := .tuple #[.agg #[.slice none 0 0, .int .i64 0, .int .i64 0, .int .i64 0, .slice none 0 0], .iface 224 (.pointer (some u))]) (by simp [results, Tryz.results44, go_sem, r0, r1, r2, r3, r4]) rfl ⟨⟨_, by simp only [ev]; rw [hu.out], attrG_none _ _⟩, by rw [show w.heap.size = B from hB.out]; exact setFive HX.out.2.2 (Nat.le_succ B) _ _ _ _ _⟩
end Go.Proofs.YtbfdgflbflajdaaGreatDoor

namespace Go.Proofs.YtbfdgflbflajdaaGreatDoor
open Go.RowKit

set_option linter.unusedSimpArgs false in
set_option linter.unusedVariables false in
set_option maxRecDepth 100000 in
set_option maxHeartbeats 4000000 in
theorem lead_own (v : Value) (A : At) (x n : Int) (E : Nat → Addr) (m : Int) (w : World) (hE : AttrEnv w E m) (h : AttrK w v A) (h1 : A.path.length ≤ 1000000) (h2 : A.tags.length ≤ 1000000) :
    Calls Tryz.prog 12 #[v, .int .i64 x, .int .i64 n] w fun r w' => (∃ v', r = .returned (.tuple #[v', ev E (leadC A x n).toNat]) ∧ AttrG w' v' (if leadC A x n = 0 then leadA A x n else noneA) w.heap.size) ∧ Below w.heap.size w w' := by
  have hk := h
  obtain ⟨p, cp, q, cq, rfl, -, -, -, -⟩ := h
  obtain ⟨W0, hW0⟩ : ∃ W0, Hid (((((w.alloc (.cells #[.slice p A.path.length cp, .int .i64 A.pref, .int .i64 A.med, .int .i64 A.org, .slice q A.tags.length cq] 24)).alloc (.cells #[.int .i64 x] 3)).alloc (.cells #[.int .i64 n] 3)).alloc (.cells #[.slice none 0 0, .int .i64 0, .int .i64 0, .int .i64 0, .slice none 0 0] 24)) = W0) := ⟨_, show _ = _ from rfl⟩
  obtain ⟨hb0, hsz, hn, hc1, hc2⟩ : Below w.heap.size w W0 ∧ W0.heap.size = w.heap.size + 4 ∧ W0.heap[w.heap.size + 3]? = some (.cells #[.slice none 0 0, .int .i64 0, .int .i64 0, .int .i64 0, .slice none 0 0] 24 (0, 0)) ∧ W0.cell? ⟨w.heap.size + 1, 0, none⟩ = some (.int .i64 x) ∧ W0.cell? ⟨w.heap.size + 2, 0, none⟩ = some (.int .i64 n) := by
    rw [← show ((((w.alloc (.cells #[.slice p A.path.length cp, .int .i64 A.pref, .int .i64 A.med, .int .i64 A.org, .slice q A.tags.length cq] 24)).alloc (.cells #[.int .i64 x] 3)).alloc (.cells #[.int .i64 n] 3)).alloc (.cells #[.slice none 0 0, .int .i64 0, .int .i64 0, .int .i64 0, .slice none 0 0] 24)) = W0 from hW0.out]
    refine ⟨(((below_alloc w _).alloc (by simp) _).alloc (by simp; omega) _).alloc (by simp; omega) _, by simp, ?_, ?_, ?_⟩
    · have := Go.heap_alloc_new (((w.alloc (.cells #[.slice p A.path.length cp, .int .i64 A.pref, .int .i64 A.med, .int .i64 A.org, .slice q A.tags.length cq] 24)).alloc (.cells #[.int .i64 x] 3)).alloc (.cells #[.int .i64 n] 3)) (.cells #[.slice none 0 0, .int .i64 0, .int .i64 0, .int .i64 0, .slice none 0 0] 24)
      rw [show (((w.alloc (.cells #[.slice p A.path.length cp, .int .i64 A.pref, .int .i64 A.med, .int .i64 A.org, .slice q A.tags.length cq] 24)).alloc (.cells #[.int .i64 x] 3)).alloc (.cells #[.int .i64 n] 3)).heap.size = w.heap.size + 3 by simp] at this
      exact this
    · refine cell_kept (below_two _ _ _) ?_
      have := box_one (w.alloc (.cells #[.slice p A.path.length cp, .int .i64 A.pref, .int .i64 A.med, .int .i64 A.org, .slice q A.tags.length cq] 24)) (.int .i64 x) 3
      rw [show (w.alloc (.cells #[.slice p A.path.length cp, .int .i64 A.pref, .int .i64 A.med, .int .i64 A.org, .slice q A.tags.length cq] 24)).heap.size = w.heap.size + 1 by simp] at this
      exact this
    · refine cell_kept (below_alloc _ _) ?_
      have := box_one ((w.alloc (.cells #[.slice p A.path.length cp, .int .i64 A.pref, .int .i64 A.med, .int .i64 A.org, .slice q A.tags.length cq] 24)).alloc (.cells #[.int .i64 x] 3)) (.int .i64 n) 3
      rw [show ((w.alloc (.cells #[.slice p A.path.length cp, .int .i64 A.pref, .int .i64 A.med, .int .i64 A.org, .slice q A.tags.length cq] 24)).alloc (.cells #[.int .i64 x] 3)).heap.size = w.heap.size + 2 by simp] at this
      exact this
  obtain ⟨HCH⟩ : Nonempty (Hid (Calls Tryz.prog 44 #[.agg #[.slice p A.path.length cp, .int .i64 A.pref, .int .i64 A.med, .int .i64 A.org, .slice q A.tags.length cq], .func (.func 45) #[] #[.pointer (some ⟨w.heap.size + 1, 0, none⟩), .pointer (some ⟨w.heap.size + 2, 0, none⟩)]] W0 fun r w' => (∃ v', r = .returned (.tuple #[v', ev E (leadC A x n).toNat]) ∧ AttrG w' v' (if leadC A x n = 0 then leadA A x n else noneA) W0.heap.size) ∧ Below W0.heap.size W0 w')) := ⟨by
    rcases fault_sign A with hf | hf
    · have hA := right_of_fault (A := A) (by omega)
      have hc0 : (leadC A x n).toNat = 0 ↔ leadC A x n = 0 := by
        have : 0 ≤ leadC A x n := by
          have hs := fault_sign A
          unfold leadC
          (repeat' split) <;> omega
        omega
      have := changed_right2 _ A (leadA A x n) 45 (.pointer (some ⟨w.heap.size + 1, 0, none⟩)) (.pointer (some ⟨w.heap.size + 2, 0, none⟩)) (leadC A x n).toNat E m W0 (hE.below hb0) (hk.below hb0) hA (lead_changer A x n (w.heap.size + 1) (w.heap.size + 2) E m W0 (hE.below hb0) hA hc1 hc2)
      refine this.mono ?_
      rintro r w' ⟨⟨v', e, hg⟩, hb⟩
      refine ⟨⟨v', e, ?_⟩, hb⟩
      by_cases hz : leadC A x n = 0
      · rw [if_pos hz]; rw [if_pos (hc0.2 hz)] at hg; exact hg
      · rw [if_neg hz]; rw [if_neg (fun h => hz (hc0.1 h))] at hg; exact hg
    · have hcc : leadC A x n = (faultA A).1 := by unfold leadC; rw [if_pos hf]
      have := changed_bad2 _ A 45 (.pointer (some ⟨w.heap.size + 1, 0, none⟩)) (.pointer (some ⟨w.heap.size + 2, 0, none⟩)) E m W0 (hE.below hb0) (hk.below hb0) h1 h2 hf
      rw [hcc, if_neg (by omega)]
      exact this⟩
  obtain ⟨c, hc⟩ : ∃ c, Hid ((leadC A x n).toNat = c) := ⟨_, show _ = _ from rfl⟩
  obtain ⟨A', hA'⟩ : ∃ c, Hid ((if leadC A x n = 0 then leadA A x n else noneA) = c) := ⟨_, show _ = _ from rfl⟩
  rw [show (leadC A x n).toNat = c from hc.out, show (if leadC A x n = 0 then leadA A x n else noneA) = A' from hA'.out] at HCH ⊢
  obtain ⟨u, hu⟩ : ∃ u, Hid (ev E c = u) := ⟨_, show _ = _ from rfl⟩
  rw [show ev E c = u from hu.out] at HCH ⊢
  obtain ⟨HW⟩ : Nonempty (Hid (Below w.heap.size w W0 ∧ W0.heap.size = w.heap.size + 4 ∧ W0.heap[w.heap.size + 3]? = some (.cells #[.slice none 0 0, .int .i64 0, .int .i64 0, .int .i64 0, .slice none 0 0] 24 (0, 0)))) := ⟨⟨hb0, hsz, hn⟩⟩
  clear hE hk h1 h2 hb0 hsz hn hc1 hc2
  go_enter Tryz.func12, Tryz.ntmps12
  go_wp2_with fail
  rw [show ((((w.alloc (.cells #[.slice p A.path.length cp, .int .i64 A.pref, .int .i64 A.med, .int .i64 A.org, .slice q A.tags.length cq] 24)).alloc (.cells #[.int .i64 x] 3)).alloc (.cells #[.int .i64 n] 3)).alloc (.cells #[.slice none 0 0, .int .i64 0, .int .i64 0, .int .i64 0, .slice none 0 0] 24)) = W0 from hW0.out]
  refine HCH.out.mono ?_
  rintro e w1 ⟨⟨v', rfl, hg⟩, hb1⟩
  obtain ⟨p1, c1, q1, d1, rfl, i1, i2, k1, k2, n1, n2⟩ := hg
  have hn : w1.heap[w.heap.size + 3]? = some (.cells #[.slice none 0 0, .int .i64 0, .int .i64 0, .int .i64 0, .slice none 0 0] 24 (0, 0)) := by rw [hb1.block _ (by have := HW.out.2.1; omega)]; exact HW.out.2.2
  obtain ⟨R, hR⟩ : ∃ R, Hid (w.heap.size + 3 = R) := ⟨_, show _ = _ from rfl⟩
  rw [show w.heap.size + 3 = R from hR.out] at hn ⊢
  obtain ⟨HX⟩ : Nonempty (Hid (Ints w1 p1 A'.path ∧ Ints w1 q1 A'.tags ∧ Kind1 p1 A'.path.length c1 ∧ Kind1 q1 A'.tags.length d1 ∧ (∀ b o, p1 = some ⟨b, o, none⟩ → R < b) ∧ (∀ b o, q1 = some ⟨b, o, none⟩ → R < b) ∧ Below w.heap.size w w1 ∧ w.heap.size ≤ R)) := ⟨⟨i1, i2, k1, k2, fun b o e => by have := n1 b o e; have := HW.out.2.1; rw [← show w.heap.size + 3 = R from hR.out]; omega, fun b o e => by have := n2 b o e; have := HW.out.2.1; rw [← show w.heap.size + 3 = R from hR.out]; omega, HW.out.1.trans (hb1.mono (by have := HW.out.2.1; omega)), by rw [← show w.heap.size + 3 = R from hR.out]; omega⟩⟩
  have r0 : w1.cell? ⟨R, 0, none⟩ = some (.slice none 0 0) := by simp [World.cell?, hn]
  have y0 : w1.frozen? ⟨R, 0, none⟩ = false := by simp [World.frozen?, hn]
  have r1 : w1.cell? ⟨R, 1, none⟩ = some (.int .i64 0) := by simp [World.cell?, hn]
  have y1 : w1.frozen? ⟨R, 1, none⟩ = false := by simp [World.frozen?, hn]
  have r2 : w1.cell? ⟨R, 2, none⟩ = some (.int .i64 0) := by simp [World.cell?, hn]
  have y2 : w1.frozen? ⟨R, 2, none⟩ = false := by simp [World.frozen?, hn]
  have r3 : w1.cell? ⟨R, 3, none⟩ = some (.int .i64 0) := by simp [World.cell?, hn]
  have y3 : w1.frozen? ⟨R, 3, none⟩ = false := by simp [World.frozen?, hn]
  have r4 : w1.cell? ⟨R, 4, none⟩ = some (.slice none 0 0) := by simp [World.cell?, hn]
  have y4 : w1.frozen? ⟨R, 4, none⟩ = false := by simp [World.frozen?, hn]
  clear hn i1 i2 k1 k2 n1 n2 hb1 HCH
  go_wp2_with fail
  obtain ⟨i1, i2, k1, k2, n1, n2, hb, hRb⟩ := HX.out
  refine bodyPost_ret (v := .tuple #[.agg #[.slice p1 A'.path.length c1, .int .i64 A'.pref, .int .i64 A'.med, .int .i64 A'.org, .slice q1 A'.tags.length d1], u]) (by simp [results, Tryz.results12, go_sem, r0, r1, r2, r3, r4]) rfl ⟨⟨_, rfl, p1, c1, q1, d1, rfl, ?_, ?_, k1, k2, fun b o e => by have := n1 b o e; omega, fun b o e => by have := n2 b o e; omega⟩, setFive hb hRb _ _ _ _ _⟩
  · exact ((((i1.set n1 _ _).set n1 _ _).set n1 _ _).set n1 _ _).set n1 _ _
  · exact ((((i2.set n2 _ _).set n2 _ _).set n2 _ _).set n2 _ _).set n2 _ _

set_option linter.unusedSimpArgs false in
set_option linter.unusedVariables false in
set_option maxRecDepth 100000 in
set_option maxHeartbeats 4000000 in
theorem tag_own (v : Value) (A : At) (x : Int) (E : Nat → Addr) (m : Int) (w : World) (hE : AttrEnv w E m) (h : AttrK w v A) (h1 : A.path.length ≤ 1000000) (h2 : A.tags.length ≤ 1000000) :
    Calls Tryz.prog 15 #[v, .int .i64 x] w fun r w' => (∃ v', r = .returned (.tuple #[v', ev E (tagC A x).toNat]) ∧ AttrG w' v' (if tagC A x = 0 then tagA A x else noneA) w.heap.size) ∧ Below w.heap.size w w' := by
  have hk := h
  obtain ⟨p, cp, q, cq, rfl, -, -, -, -⟩ := h
  obtain ⟨W0, hW0⟩ : ∃ W0, Hid ((((w.alloc (.cells #[.slice p A.path.length cp, .int .i64 A.pref, .int .i64 A.med, .int .i64 A.org, .slice q A.tags.length cq] 24)).alloc (.cells #[.int .i64 x] 3)).alloc (.cells #[.slice none 0 0, .int .i64 0, .int .i64 0, .int .i64 0, .slice none 0 0] 24)) = W0) := ⟨_, show _ = _ from rfl⟩
  obtain ⟨hb0, hsz, hn, hc1⟩ : Below w.heap.size w W0 ∧ W0.heap.size = w.heap.size + 3 ∧ W0.heap[w.heap.size + 2]? = some (.cells #[.slice none 0 0, .int .i64 0, .int .i64 0, .int .i64 0, .slice none 0 0] 24 (0, 0)) ∧ W0.cell? ⟨w.heap.size + 1, 0, none⟩ = some (.int .i64 x) := by
    rw [← show (((w.alloc (.cells #[.slice p A.path.length cp, .int .i64 A.pref, .int .i64 A.med, .int .i64 A.org, .slice q A.tags.length cq] 24)).alloc (.cells #[.int .i64 x] 3)).alloc (.cells #[.slice none 0 0, .int .i64 0, .int .i64 0, .int .i64 0, .slice none 0 0] 24)) = W0 from hW0.out]
    refine ⟨((below_alloc w _).alloc (by simp) _).alloc (by simp; omega) _, by simp, ?_, ?_⟩
    · have := Go.heap_alloc_new ((w.alloc (.cells #[.slice p A.path.length cp, .int .i64 A.pref, .int .i64 A.med, .int .i64 A.org, .slice q A.tags.length cq] 24)).alloc (.cells #[.int .i64 x] 3)) (.cells #[.slice none 0 0, .int .i64 0, .int .i64 0, .int .i64 0, .slice none 0 0] 24)
      rw [show ((w.alloc (.cells #[.slice p A.path.length cp, .int .i64 A.pref, .int .i64 A.med, .int .i64 A.org, .slice q A.tags.length cq] 24)).alloc (.cells #[.int .i64 x] 3)).heap.size = w.heap.size + 2 by simp] at this
      exact this
    · refine cell_kept (below_alloc _ _) ?_
      have := box_one (w.alloc (.cells #[.slice p A.path.length cp, .int .i64 A.pref, .int .i64 A.med, .int .i64 A.org, .slice q A.tags.length cq] 24)) (.int .i64 x) 3
      rw [show (w.alloc (.cells #[.slice p A.path.length cp, .int .i64 A.pref, .int .i64 A.med, .int .i64 A.org, .slice q A.tags.length cq] 24)).heap.size = w.heap.size + 1 by simp] at this
      exact this
  obtain ⟨HCH⟩ : Nonempty (Hid (Calls Tryz.prog 44 #[.agg #[.slice p A.path.length cp, .int .i64 A.pref, .int .i64 A.med, .int .i64 A.org, .slice q A.tags.length cq], .func (.func 49) #[] #[.pointer (some ⟨w.heap.size + 1, 0, none⟩)]] W0 fun r w' => (∃ v', r = .returned (.tuple #[v', ev E (tagC A x).toNat]) ∧ AttrG w' v' (if tagC A x = 0 then tagA A x else noneA) W0.heap.size) ∧ Below W0.heap.size W0 w')) := ⟨by
    rcases fault_sign A with hf | hf
    · have hA := right_of_fault (A := A) (by omega)
      have hc0 : (tagC A x).toNat = 0 ↔ tagC A x = 0 := by
        have : 0 ≤ tagC A x := by
          have hs := fault_sign A
          unfold tagC
          (repeat' split) <;> omega
        omega
      have := changed_right1 _ A (tagA A x) 49 (.pointer (some ⟨w.heap.size + 1, 0, none⟩)) (tagC A x).toNat E m W0 (hE.below hb0) (hk.below hb0) hA (tag_changer A x (w.heap.size + 1) E m W0 (hE.below hb0) hA hc1)
      refine this.mono ?_
      rintro r w' ⟨⟨v', e, hg⟩, hb⟩
      refine ⟨⟨v', e, ?_⟩, hb⟩
      by_cases hz : tagC A x = 0
      · rw [if_pos hz]; rw [if_pos (hc0.2 hz)] at hg; exact hg
      · rw [if_neg hz]; rw [if_neg (fun h => hz (hc0.1 h))] at hg; exact hg
    · have hcc : tagC A x = (faultA A).1 := by unfold tagC; rw [if_pos hf]
      have := changed_bad1 _ A 49 (.pointer (some ⟨w.heap.size + 1, 0, none⟩)) E m W0 (hE.below hb0) (hk.below hb0) h1 h2 hf
      rw [hcc, if_neg (by omega)]
      exact this⟩
  obtain ⟨c, hc⟩ : ∃ c, Hid ((tagC A x).toNat = c) := ⟨_, show _ = _ from rfl⟩
  obtain ⟨A', hA'⟩ : ∃ c, Hid ((if tagC A x = 0 then tagA A x else noneA) = c) := ⟨_, show _ = _ from rfl⟩
  rw [show (tagC A x).toNat = c from hc.out, show (if tagC A x = 0 then tagA A x else noneA) = A' from hA'.out] at HCH ⊢
  obtain ⟨u, hu⟩ : ∃ u, Hid (ev E c = u) := ⟨_, show _ = _ from rfl⟩
  rw [show ev E c = u from hu.out] at HCH ⊢
  obtain ⟨HW⟩ : Nonempty (Hid (Below w.heap.size w W0 ∧ W0.heap.size = w.heap.size + 3 ∧ W0.heap[w.heap.size + 2]? = some (.cells #[.slice none 0 0, .int .i64 0, .int .i64 0, .int .i64 0, .slice none 0 0] 24 (0, 0)))) := ⟨⟨hb0, hsz, hn⟩⟩
  clear hE hk h1 h2 hb0 hsz hn hc1
  go_enter Tryz.func15, Tryz.ntmps15
  go_wp2_with fail
  rw [show (((w.alloc (.cells #[.slice p A.path.length cp, .int .i64 A.pref, .int .i64 A.med, .int .i64 A.org, .slice q A.tags.length cq] 24)).alloc (.cells #[.int .i64 x] 3)).alloc (.cells #[.slice none 0 0, .int .i64 0, .int .i64 0, .int .i64 0, .slice none 0 0] 24)) = W0 from hW0.out]
  refine HCH.out.mono ?_
  rintro e w1 ⟨⟨v', rfl, hg⟩, hb1⟩
  obtain ⟨p1, c1, q1, d1, rfl, i1, i2, k1, k2, n1, n2⟩ := hg
  have hn : w1.heap[w.heap.size + 2]? = some (.cells #[.slice none 0 0, .int .i64 0, .int .i64 0, .int .i64 0, .slice none 0 0] 24 (0, 0)) := by rw [hb1.block _ (by have := HW.out.2.1; omega)]; exact HW.out.2.2
  obtain ⟨R, hR⟩ : ∃ R, Hid (w.heap.size + 2 = R) := ⟨_, show _ = _ from rfl⟩
  rw [show w.heap.size + 2 = R from hR.out] at hn ⊢
  obtain ⟨HX⟩ : Nonempty (Hid (Ints w1 p1 A'.path ∧ Ints w1 q1 A'.tags ∧ Kind1 p1 A'.path.length c1 ∧ Kind1 q1 A'.tags.length d1 ∧ (∀ b o, p1 = some ⟨b, o, none⟩ → R < b) ∧ (∀ b o, q1 = some ⟨b, o, none⟩ → R < b) ∧ Below w.heap.size w w1 ∧ w.heap.size ≤ R)) := ⟨⟨i1, i2, k1, k2, fun b o e => by have := n1 b o e; have := HW.out.2.1; rw [← show w.heap.size + 2 = R from hR.out]; omega, fun b o e => by have := n2 b o e; have := HW.out.2.1; rw [← show w.heap.size + 2 = R from hR.out]; omega, HW.out.1.trans (hb1.mono (by have := HW.out.2.1; omega)), by rw [← show w.heap.size + 2 = R from hR.out]; omega⟩⟩
  have r0 : w1.cell? ⟨R, 0, none⟩ = some (.slice none 0 0) := by simp [World.cell?, hn]
  have y0 : w1.frozen? ⟨R, 0, none⟩ = false := by simp [World.frozen?, hn]
  have r1 : w1.cell? ⟨R, 1, none⟩ = some (.int .i64 0) := by simp [World.cell?, hn]
  have y1 : w1.frozen? ⟨R, 1, none⟩ = false := by simp [World.frozen?, hn]
  have r2 : w1.cell? ⟨R, 2, none⟩ = some (.int .i64 0) := by simp [World.cell?, hn]
  have y2 : w1.frozen? ⟨R, 2, none⟩ = false := by simp [World.frozen?, hn]
  have r3 : w1.cell? ⟨R, 3, none⟩ = some (.int .i64 0) := by simp [World.cell?, hn]
  have y3 : w1.frozen? ⟨R, 3, none⟩ = false := by simp [World.frozen?, hn]
  have r4 : w1.cell? ⟨R, 4, none⟩ = some (.slice none 0 0) := by simp [World.cell?, hn]
  have y4 : w1.frozen? ⟨R, 4, none⟩ = false := by simp [World.frozen?, hn]
  clear hn i1 i2 k1 k2 n1 n2 hb1 HCH
  go_wp2_with fail
  obtain ⟨i1, i2, k1, k2, n1, n2, hb, hRb⟩ := HX.out
  refine bodyPost_ret (v := .tuple #[.agg #[.slice p1 A'.path.length c1, .int .i64 A'.pref, .int .i64 A'.med, .int .i64 A'.org, .slice q1 A'.tags.length d1], u]) (by simp [results, Tryz.results15, go_sem, r0, r1, r2, r3, r4]) rfl ⟨⟨_, rfl, p1, c1, q1, d1, rfl, ?_, ?_, k1, k2, fun b o e => by have := n1 b o e; omega, fun b o e => by have := n2 b o e; omega⟩, setFive hb hRb _ _ _ _ _⟩
  · exact ((((i1.set n1 _ _).set n1 _ _).set n1 _ _).set n1 _ _).set n1 _ _
  · exact ((((i2.set n2 _ _).set n2 _ _).set n2 _ _).set n2 _ _).set n2 _ _
theorem lead_any (v : Value) (A : At) (x n : Int) (E : Nat → Addr) (m : Int) (w : World) (hE : AttrEnv w E m) (h : AttrK w v A) (h1 : A.path.length ≤ 1000000) (h2 : A.tags.length ≤ 1000000) :
    Calls Tryz.prog 12 #[v, .int .i64 x, .int .i64 n] w fun r w' => (∃ v', r = .returned (.tuple #[v', ev E (leadC A x n).toNat]) ∧ AttrK w' v' (if leadC A x n = 0 then leadA A x n else noneA)) ∧ Below w.heap.size w w' :=
  (lead_own v A x n E m w hE h h1 h2).mono fun _ _ ⟨⟨v', e, k⟩, b⟩ => ⟨⟨v', e, k.attrK⟩, b⟩
theorem tag_any (v : Value) (A : At) (x : Int) (E : Nat → Addr) (m : Int) (w : World) (hE : AttrEnv w E m) (h : AttrK w v A) (h1 : A.path.length ≤ 1000000) (h2 : A.tags.length ≤ 1000000) :
    Calls Tryz.prog 15 #[v, .int .i64 x] w fun r w' => (∃ v', r = .returned (.tuple #[v', ev E (tagC A x).toNat]) ∧ AttrK w' v' (if tagC A x = 0 then tagA A x else noneA)) ∧ Below w.heap.size w w' :=
  (tag_own v A x E m w hE h h1 h2).mono fun _ _ ⟨⟨v', e, k⟩, b⟩ => ⟨⟨v', e, k.attrK⟩, b⟩
end Go.Proofs.YtbfdgflbflajdaaGreatDoor

namespace Go.Proofs.YtbfdgflbflajdaaGreatDoor
open Go.RowKit

def toldA : At := ⟨[1, 2], 100, 0, 1, [5, 7]⟩
theorem told_right : RightA toldA := by
  refine ⟨by decide, by decide, ?_, by decide, by decide, by decide, ?_, ?_⟩
  · intro x hx; simp [toldA] at hx; omega
  · intro x hx; simp [toldA] at hx; omega
  · intro j hj
    have : j = 0 := by simp [toldA] at hj; omega
    subst this
    show (5 : Int) < 7
    decide
theorem told_text : textA toldA = [49, 45, 50, 32, 49, 48, 48, 32, 48, 32, 49, 32, 53, 44, 55] := by
  have e1 : Lib.itoa 1 = [49] := by rw [itoa_dec 1 (by decide), show (1 : Int).toNat = 1 from rfl, Lib.decDigits_one (by decide)]; rfl
  have e2 : Lib.itoa 2 = [50] := by rw [itoa_dec 2 (by decide), show (2 : Int).toNat = 2 from rfl, Lib.decDigits_one (by decide)]; rfl
  have e0 : Lib.itoa 0 = [48] := by rw [itoa_dec 0 (by decide), show (0 : Int).toNat = 0 from rfl, Lib.decDigits_one (by decide)]; rfl
  have e5 : Lib.itoa 5 = [53] := by rw [itoa_dec 5 (by decide), show (5 : Int).toNat = 5 from rfl, Lib.decDigits_one (by decide)]; rfl
  have e7 : Lib.itoa 7 = [55] := by rw [itoa_dec 7 (by decide), show (7 : Int).toNat = 7 from rfl, Lib.decDigits_one (by decide)]; rfl
  have e100 : Lib.itoa 100 = [49, 48, 48] := by
    rw [itoa_dec 100 (by decide), show (100 : Int).toNat = 100 from rfl, decDigits_more 100 (by decide), show 100 / 10 = 10 from rfl, decDigits_more 10 (by decide), show 10 / 10 = 1 from rfl, Lib.decDigits_one (by decide)]; rfl
  simp [textA, toldA, joinN, e0, e1, e2, e5, e7, e100]

set_option linter.unusedVariables false in
set_option maxRecDepth 100000 in
set_option maxHeartbeats 4000000 in
theorem told_any (E : Nat → Addr) (m : Int) (w : World) (hE : AttrEnv w E m) :
    Calls Tryz.prog 6 #[] w fun r w' => r = .returned (.bool true) ∧ Below w.heap.size w w' := by
  obtain ⟨HRD⟩ : Nonempty (Hid (Calls Tryz.prog 10 #[.string ⟨#[49, 45, 50, 32, 49, 48, 48, 32, 48, 32, 49, 32, 53, 44, 55]⟩] w fun r w' => (∃ v, r = .returned (.tuple #[v, .nilIface]) ∧ AttrK w' v toldA) ∧ Below w.heap.size w w')) := ⟨by
    have := aRead_any [49, 45, 50, 32, 49, 48, 48, 32, 48, 32, 49, 32, 53, 44, 55] E m w hE (by decide)
    have h := read_text told_right
    rw [told_text] at h
    rw [h.1, h.2] at this
    exact this⟩
  obtain ⟨HT⟩ : Nonempty (Hid (∀ v w', Below w.heap.size w w' → IsAttr w' v toldA → Calls Tryz.prog 9 #[v] w' fun r w'' => r = .returned (.string ⟨#[49, 45, 50, 32, 49, 48, 48, 32, 48, 32, 49, 32, 53, 44, 55]⟩) ∧ Below w'.heap.size w' w'')) := ⟨fun v w' hb hv => by
    have := text_right v toldA E m w' (hE.below hb) hv told_right
    rw [told_text] at this
    exact this⟩
  obtain ⟨HG⟩ : Nonempty (Hid (∀ v w', IsAttr w' v toldA → Calls Tryz.prog 13 #[v, .int .i64 2] w' fun r w'' => r = .returned (.bool true) ∧ Below w'.heap.size w' w'')) := ⟨fun v w' hv => through_any v toldA 2 w' hv (by decide)⟩
  clear hE
  go_enter Tryz.func6, Tryz.ntmps6
  go_wp2_with fail
  refine HRD.out.mono ?_
  rintro e w1 ⟨⟨v, rfl, hk⟩, hb1⟩
  obtain ⟨p, cp, q, cq, rfl, i1, i2, -, -⟩ := hk
  obtain ⟨HB1⟩ : Nonempty (Hid (Below w.heap.size w w1 ∧ IsAttr w1 (.agg #[.slice p 2 cp, .int .i64 100, .int .i64 0, .int .i64 1, .slice q 2 cq]) toldA)) := ⟨⟨hb1, p, cp, q, cq, rfl, i1, i2⟩⟩
  simp only [toldA, List.length_cons, List.length_nil]
  clear i1 i2 hb1 HRD
  go_wp2_with fail
  refine (HT.out _ _ (HB1.out.1.trans ((below_alloc _ _).mono HB1.out.1.size)) (HB1.out.2.below (below_alloc _ _))).mono ?_
  rintro e w2 ⟨rfl, hb2⟩
  obtain ⟨HS2⟩ : Nonempty (Hid (AB w1 w2 w1.heap.size _)) := ⟨(ab_start w1 _).on hb2⟩
  obtain ⟨a0, a1, a2, a3, a4⟩ := HS2.out.arg
  obtain ⟨HB2⟩ : Nonempty (Hid (Below w.heap.size w w2 ∧ IsAttr w2 _ toldA)) := ⟨⟨HB1.out.1.trans (HS2.out.2.mono HB1.out.1.size), HB1.out.2.below HS2.out.2⟩⟩
  clear hb2 HT
  go_wp2_with fail
  refine (HG.out _ _ HB2.out.2).mono ?_
  rintro e w3 ⟨rfl, hb3⟩
  obtain ⟨HB3⟩ : Nonempty (Hid (Below w.heap.size w w3)) := ⟨HB2.out.1.trans (hb3.mono HB2.out.1.size)⟩
  clear hb3
  go_wp2_with fail
  go_ret
  exact ⟨rfl, HB3.out⟩
end Go.Proofs.YtbfdgflbflajdaaGreatDoor

namespace Go.Proofs.YtbfdgflbflajdaaGreatDoor
open Go.RowKit

theorem lead_ok {A : At} (hA : RightA A) {x n : Int} (h : leadC A x n = 0) : ∃ N : Nat, n = (N : Int) ∧ N ≤ 12 ∧ (1 ≤ x ∧ x ≤ 1000) ∧ A.path.length + N ≤ 12 := by
  unfold leadC at h
  rw [fault_of_right hA, if_neg (by decide)] at h
  split at h
  · simp at h
  · split at h
    · simp at h
    · exact ⟨n.toNat, by omega, by omega, by omega, by omega⟩
theorem lead_right {A : At} (hA : RightA A) {x n : Int} (h : leadC A x n = 0) : RightA (leadA A x n) := by
  obtain ⟨N, rfl, h1, h2, h3⟩ := lead_ok hA h
  refine ⟨?_, hA.tags, ?_, hA.pref, hA.med, hA.org, hA.tag, hA.rise⟩
  · simp [leadA]; omega
  · intro y hy
    simp only [leadA, Int.toNat_natCast, List.mem_append] at hy
    rcases hy with hy | hy
    · rw [List.eq_of_mem_replicate hy]; exact h2
    · exact hA.sys y hy
theorem lead_len (A : At) (x : Int) (N : Nat) : (leadA A x (N : Int)).path.length = A.path.length + N := by simp [leadA]; omega
theorem lead_has (A : At) (x : Int) (N : Nat) (h : 0 < N) : (leadA A x (N : Int)).path.contains x = true := by
  simp only [leadA, Int.toNat_natCast, List.contains_iff_mem, List.mem_append]
  exact .inl (by rw [List.mem_replicate]; exact ⟨by omega, rfl⟩)
theorem lead_drop (A : At) (x : Int) (N : Nat) : (leadA A x (N : Int)).path.drop N = A.path := by
  simp only [leadA, Int.toNat_natCast]
  rw [List.drop_append_of_le_length (by simp), List.drop_of_length_le (by simp)]; rfl

theorem pos_split {T : List Int} (h : T.Pairwise (· < ·)) (x : Int) : (∀ y ∈ T.take (tagPos T x), y < x) ∧ (∀ y ∈ T.drop (tagPos T x), x ≤ y) := by
  induction T with
  | nil => simp
  | cons a T ih =>
    obtain ⟨h1, h2⟩ := List.pairwise_cons.1 h
    obtain ⟨i1, i2⟩ := ih h2
    by_cases ha : a < x
    · have e : tagPos (a :: T) x = tagPos T x + 1 := by simp [tagPos, ha]
      rw [e]
      refine ⟨?_, ?_⟩
      · intro y hy
        rw [List.take_succ_cons] at hy
        rcases List.mem_cons.1 hy with rfl | hy
        · exact ha
        · exact i1 y hy
      · intro y hy
        rw [List.drop_succ_cons] at hy
        exact i2 y hy
    · have e : tagPos (a :: T) x = 0 := by
        have h0 : tagPos T x = 0 := by
          unfold tagPos
          rw [List.countP_eq_zero]
          intro y hy
          have := h1 y hy
          simp; omega
        unfold tagPos at h0 ⊢
        rw [List.countP_cons_of_neg (by simpa using ha)]
        exact h0
      rw [e]
      refine ⟨by simp, ?_⟩
      intro y hy
      rw [List.drop_zero] at hy
      rcases List.mem_cons.1 hy with rfl | hy
      · omega
      · have := h1 y hy; omega
theorem ins_pair {T : List Int} (h : T.Pairwise (· < ·)) (x : Int) (hx : T.contains x = false) : (T.take (tagPos T x) ++ x :: T.drop (tagPos T x)).Pairwise (· < ·) := by
  obtain ⟨h1, h2⟩ := pos_split h x
  have hnot : ∀ y ∈ T.drop (tagPos T x), x < y := fun y hy => by
    have := h2 y hy
    rcases Int.lt_or_eq_of_le this with h | h
    · exact h
    · exfalso
      rw [← Bool.not_eq_true, List.contains_iff_mem] at hx
      exact hx (by rw [h]; exact List.mem_of_mem_drop hy)
  have hp := h
  rw [← List.take_append_drop (tagPos T x) T, List.pairwise_append] at hp
  obtain ⟨p1, p2, p3⟩ := hp
  rw [List.pairwise_append]
  refine ⟨p1, List.pairwise_cons.2 ⟨hnot, p2⟩, ?_⟩
  intro a ha b hb
  rcases List.mem_cons.1 hb with rfl | hb
  · exact h1 a ha
  · exact p3 a ha b hb
theorem tagIns_pair {T : List Int} (h : T.Pairwise (· < ·)) (x : Int) : (tagIns T x).Pairwise (· < ·) := by
  unfold tagIns
  cases hx : T.contains x with
  | true => simpa using h
  | false => simpa using ins_pair h x hx
theorem mem_tagIns (T : List Int) (x y : Int) : y ∈ tagIns T x ↔ y = x ∨ y ∈ T := by
  unfold tagIns
  cases hx : T.contains x with
  | true =>
    rw [List.contains_iff_mem] at hx
    simp only [if_true]
    constructor
    · exact Or.inr
    · rintro (rfl | h)
      · exact hx
      · exact h
  | false =>
    simp only [Bool.false_eq_true, if_false, List.mem_append, List.mem_cons]
    constructor
    · rintro (h | h | h)
      · exact .inr (List.mem_of_mem_take h)
      · exact .inl h
      · exact .inr (List.mem_of_mem_drop h)
    · rintro (h | h)
      · exact .inr (.inl h)
      · rw [← List.take_append_drop (tagPos T x) T, List.mem_append] at h
        rcases h with h | h
        · exact .inl h
        · exact .inr (.inr h)
theorem tagIns_len (T : List Int) (x : Int) : (tagIns T x).length ≤ T.length + 1 ∧ (T.contains x = true → tagIns T x = T) := by
  refine ⟨?_, fun h => by unfold tagIns; rw [if_pos h]⟩
  unfold tagIns
  split
  · omega
  · rw [ins_len T x (tagPos T x) (by unfold tagPos; exact List.countP_le_length)]; exact Nat.le_refl _
theorem count_one {T : List Int} (h : T.Pairwise (· < ·)) {x : Int} (hx : x ∈ T) : T.count x = 1 := by
  induction T with
  | nil => simp at hx
  | cons a T ih =>
    obtain ⟨h1, h2⟩ := List.pairwise_cons.1 h
    by_cases ha : a = x
    · subst ha
      have : T.count a = 0 := List.count_eq_zero.2 (fun hm => by have := h1 a hm; omega)
      simp [this]
    · rcases List.mem_cons.1 hx with e | hm
      · exact absurd e.symm ha
      · rw [List.count_cons_of_ne (by simpa using ha)]; exact ih h2 hm
theorem tag_ok {A : At} (hA : RightA A) {x : Int} (h : tagC A x = 0) : (1 ≤ x ∧ x ≤ 9999) ∧ (A.tags.contains x = true ∨ A.tags.length < 8) := by
  unfold tagC at h
  rw [fault_of_right hA, if_neg (by decide)] at h
  split at h
  · simp at h
  · rename_i h1
    refine ⟨by omega, ?_⟩
    split at h
    · exact .inl (by assumption)
    · split at h
      · simp at h
      · exact .inr (by omega)
theorem tag_right {A : At} (hA : RightA A) {x : Int} (h : tagC A x = 0) : RightA (tagA A x) := by
  obtain ⟨h1, h2⟩ := tag_ok hA h
  have hp := tagIns_pair (rise_pair hA.rise) x
  refine ⟨hA.path, ?_, hA.sys, hA.pref, hA.med, hA.org, ?_, ?_⟩
  · show (tagIns A.tags x).length ≤ 8
    rcases h2 with h2 | h2
    · rw [(tagIns_len A.tags x).2 h2]; exact hA.tags
    · have := (tagIns_len A.tags x).1; omega
  · intro y hy
    rcases (mem_tagIns A.tags x y).1 hy with rfl | hy
    · exact h1
    · exact hA.tag y hy
  · intro j hj
    exact (List.pairwise_iff_getElem.1 hp) j (j + 1) _ _ (by omega)
theorem tag_again {A : At} (hA : RightA A) {x : Int} (h : tagC A x = 0) : tagC (tagA A x) x = 0 ∧ tagA (tagA A x) x = tagA A x := by
  obtain ⟨h1, -⟩ := tag_ok hA h
  exact tagC_there (tag_right hA h) (by omega) (by rw [List.contains_iff_mem]; exact (mem_tagIns A.tags x x).2 (.inl rfl))
theorem tag_count {A : At} (hA : RightA A) (x : Int) : (tagA A x).tags.count x = 1 := count_one (tagIns_pair (rise_pair hA.rise) x) ((mem_tagIns A.tags x x).2 (.inl rfl))
theorem tag_has (A : At) (x y : Int) (h : y ∈ A.tags) : (tagA A x).tags.contains y = true := by
  rw [List.contains_iff_mem]; exact (mem_tagIns A.tags x y).2 (.inr h)
theorem count_take (T : List Int) (x : Int) (k : Nat) (h : k < T.length) : (T.take (k + 1)).count x = (T.take k).count x + if T[k] = x then 1 else 0 := by
  rw [List.take_succ_eq_append_getElem h, List.count_append]
  congr 1
  simp [List.count_cons]
end Go.Proofs.YtbfdgflbflajdaaGreatDoor
