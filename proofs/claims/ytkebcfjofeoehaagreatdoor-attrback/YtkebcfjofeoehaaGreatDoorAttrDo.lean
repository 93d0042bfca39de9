/-
  Package attr's Lead and Tag: what they return.
-/
import Derived.Test.YtkebcfjofeoehaaGreatDoorAttrTag1
import Derived.Test.YtkebcfjofeoehaaGreatDoorAttrChange1
import Derived.Test.YtkebcfjofeoehaaGreatDoorAttrChange2
namespace Go.Proofs.YtkebcfjofeoehaaGreatDoor
open Go.RowKit

theorem setFive {w w1 : World} {B R : Nat} (hb : Below B w w1) (hR : B ≤ R) (a b c d e : Value) : Below B w (((((w1.setCell ⟨R, 0, none⟩ a).setCell ⟨R, 1, none⟩ b).setCell ⟨R, 2, none⟩ c).setCell ⟨R, 3, none⟩ d).setCell ⟨R, 4, none⟩ e) :=
  ((((hb.setCell (p := ⟨R, 0, none⟩) hR _).setCell (p := ⟨R, 1, none⟩) hR _).setCell (p := ⟨R, 2, none⟩) hR _).setCell (p := ⟨R, 3, none⟩) hR _).setCell (p := ⟨R, 4, none⟩) hR _

set_option linter.unusedSimpArgs false in
set_option linter.unusedVariables false in
set_option maxRecDepth 100000 in
set_option maxHeartbeats 4000000 in
theorem lead_own (v : Value) (A : At) (x n : Int) (E : Nat → Addr) (m : Int) (w : World) (hE : AttrEnv w E m) (h : AttrK w v A) (h1 : A.path.length ≤ 1000000) (h2 : A.tags.length ≤ 1000000) :
    Calls Tryz.prog 11 #[v, .int .i64 x, .int .i64 n] w fun r w' => (∃ v', r = .returned (.tuple #[v', ev E (leadC A x n).toNat]) ∧ AttrG w' v' (if leadC A x n = 0 then leadA A x n else noneA) w.heap.size) ∧ Below w.heap.size w w' := by
  have hk := h
  obtain ⟨p, cp, q, cq, rfl, -, -, -, -⟩ := h
  obtain ⟨W0, hW0⟩ : ∃ W0, Hid (((((w.alloc (.cells #[.slice p A.path.length cp, .int .i64 A.pref, .int .i64 A.med, .int .i64 A.org, .slice q A.tags.length cq] 24)).alloc (.cells #[.int .i64 x] 3)).alloc (.cells #[.int .i64 n] 3)).alloc (.cells #[.slice none 0 0, .int .i64 0, .int .i64 0, .int .i64 0, .slice none 0 0] 24)) = W0) := ⟨_, show _ = _ from rfl⟩
  obtain ⟨hb0, hsz, hn, hc1, hc2⟩ : Below w.heap.size w W0 ∧ W0.heap.size = w.heap.size + 4 ∧ W0.heap[w.heap.size + 3]? = some (.cells #[.slice none 0 0, .int .i64 0, .int .i64 0, .int .i64 0, .slice none 0 0] 24 (0, 0)) ∧ W0.cell? ⟨w.heap.size + 1, 0, none⟩ = some (.int .i64 x) ∧ W0.cell? ⟨w.heap.size + 2, 0, none⟩ = some (.int .i64 n) := by
    rw [← show ((((w.alloc (.cells #[.slice p A.path.length cp, .int .i64 A.pref, .int .i64 A.med, .int .i64 A.org, .slice q A.tags.length cq] 24)).alloc (.cells #[.int .i64 x] 3)).alloc (.cells #[.int .i64 n] 3)).alloc (.cells #[.slice none 0 0, .int .i64 0, .int .i64 0, .int .i64 0, .slice none 0 0] 24)) = W0 from hW0.out]
    refine ⟨(((below_alloc w _).alloc (by simp) _).alloc (by simp; omega) _).alloc (by simp; omega) _, by simp, ?_, ?_, ?_⟩
    · have := Go.heap_alloc_new (((w.alloc (.cells #[.slice p A.path.length cp, .int .i64 A.pref, .int .i64 A.med, .int .i64 A.org, .slice q A.tags.length cq] 24)).alloc (.cells #[.int .i64 x] 3)).alloc (.cells #[.int .i64 n] 3)) (.cells #[.slice none 0 0, .int .i64 0, .int .i64 0, .int .i64 0, .slice none 0 0] 24)
      rw [show (((w.alloc (.cells #[.slice p A.path.length cp, .int .i64 A.pref, .int .i64 A.med, .int .i64 A.org, .slice q A.tags.length cq] 24)).alloc (.cells #[.int .i64 x] 3)).alloc (.cells #[.int .i64 n] 3)).heap.size = w.heap.size + 3 by simp] at this
      exact this
    · refine cell_kept (below_two _ _ _) ?_
      have := box_one (w.alloc (.cells #[.slice p A.path.length cp, .int .i64 A.pref, .int .i64 A.med, .int .i64 A.org, .slice q A.tags.length cq] 24)) (.int .i64 x) 3
      rw [show (w.alloc (.cells #[.slice p A.path.length cp, .int .i64 A.pref, .int .i64 A.med, .int .i64 A.org, .slice q A.tags.length cq] 24)).heap.size = w.heap.size + 1 by simp] at this
      exact this
    · refine cell_kept (below_alloc _ _) ?_
      have := box_one ((w.alloc (.cells #[.slice p A.path.length cp, .int .i64 A.pref, .int .i64 A.med, .int .i64 A.org, .slice q A.tags.length cq] 24)).alloc (.cells #[.int .i64 x] 3)) (.int .i64 n) 3
      rw [show ((w.alloc (.cells #[.slice p A.path.length cp, .int .i64 A.pref, .int .i64 A.med, .int .i64 A.org, .slice q A.tags.length cq] 24)).alloc (.cells #[.int .i64 x] 3)).heap.size = w.heap.size + 2 by simp] at this
      exact this
  obtain ⟨HCH⟩ : Nonempty (Hid (Calls Tryz.prog 36 #[.agg #[.slice p A.path.length cp, .int .i64 A.pref, .int .i64 A.med, .int .i64 A.org, .slice q A.tags.length cq], .func (.func 37) #[] #[.pointer (some ⟨w.heap.size + 1, 0, none⟩), .pointer (some ⟨w.heap.size + 2, 0, none⟩)]] W0 fun r w' => (∃ v', r = .returned (.tuple #[v', ev E (leadC A x n).toNat]) ∧ AttrG w' v' (if leadC A x n = 0 then leadA A x n else noneA) W0.heap.size) ∧ Below W0.heap.size W0 w')) := ⟨by
    rcases fault_sign A with hf | hf
    · have hA := right_of_fault (A := A) (by omega)
      have hc0 : (leadC A x n).toNat = 0 ↔ leadC A x n = 0 := by
        have : 0 ≤ leadC A x n := by
          have hs := fault_sign A
          unfold leadC
          (repeat' split) <;> omega
        omega
      have := changed_right2 _ A (leadA A x n) 37 (.pointer (some ⟨w.heap.size + 1, 0, none⟩)) (.pointer (some ⟨w.heap.size + 2, 0, none⟩)) (leadC A x n).toNat E m W0 (hE.below hb0) (hk.below hb0) hA (lead_changer A x n (w.heap.size + 1) (w.heap.size + 2) E m W0 (hE.below hb0) hA hc1 hc2)
      refine this.mono ?_
      rintro r w' ⟨⟨v', e, hg⟩, hb⟩
      refine ⟨⟨v', e, ?_⟩, hb⟩
      by_cases hz : leadC A x n = 0
      · rw [if_pos hz]; rw [if_pos (hc0.2 hz)] at hg; exact hg
      · rw [if_neg hz]; rw [if_neg (fun h => hz (hc0.1 h))] at hg; exact hg
    · have hcc : leadC A x n = (faultA A).1 := by unfold leadC; rw [if_pos hf]
      have := changed_bad2 _ A 37 (.pointer (some ⟨w.heap.size + 1, 0, none⟩)) (.pointer (some ⟨w.heap.size + 2, 0, none⟩)) E m W0 (hE.below hb0) (hk.below hb0) h1 h2 hf
      rw [hcc, if_neg (by omega)]
      exact this⟩
  obtain ⟨c, hc⟩ : ∃ c, Hid ((leadC A x n).toNat = c) := ⟨_, show _ = _ from rfl⟩
  obtain ⟨A', hA'⟩ : ∃ c, Hid ((if leadC A x n = 0 then leadA A x n else noneA) = c) := ⟨_, show _ = _ from rfl⟩
  rw [show (leadC A x n).toNat = c from hc.out, show (if leadC A x n = 0 then leadA A x n else noneA) = A' from hA'.out] at HCH ⊢
  obtain ⟨u, hu⟩ : ∃ u, Hid (ev E c = u) := ⟨_, show _ = _ from rfl⟩
  rw [show ev E c = u from hu.out] at HCH ⊢
  obtain ⟨HW⟩ : Nonempty (Hid (Below w.heap.size w W0 ∧ W0.heap.size = w.heap.size + 4 ∧ W0.heap[w.heap.size + 3]? = some (.cells #[.slice none 0 0, .int .i64 0, .int .i64 0, .int .i64 0, .slice none 0 0] 24 (0, 0)))) := ⟨⟨hb0, hsz, hn⟩⟩
  clear hE hk h1 h2 hb0 hsz hn hc1 hc2
  go_enter Tryz.func11, Tryz.ntmps11
  go_wp2_with fail
  rw [show ((((w.alloc (.cells #[.slice p A.path.length cp, .int .i64 A.pref, .int .i64 A.med, .int .i64 A.org, .slice q A.tags.length cq] 24)).alloc (.cells #[.int .i64 x] 3)).alloc (.cells #[.int .i64 n] 3)).alloc (.cells #[.slice none 0 0, .int .i64 0, .int .i64 0, .int .i64 0, .slice none 0 0] 24)) = W0 from hW0.out]
  refine HCH.out.mono ?_
  rintro e w1 ⟨⟨v', rfl, hg⟩, hb1⟩
  obtain ⟨p1, c1, q1, d1, rfl, i1, i2, k1, k2, n1, n2⟩ := hg
  have hn : w1.heap[w.heap.size + 3]? = some (.cells #[.slice none 0 0, .int .i64 0, .int .i64 0, .int .i64 0, .slice none 0 0] 24 (0, 0)) := by rw [hb1.block _ (by have := HW.out.2.1; omega)]; exact HW.out.2.2
  obtain ⟨R, hR⟩ : ∃ R, Hid (w.heap.size + 3 = R) := ⟨_, show _ = _ from rfl⟩
  rw [show w.heap.size + 3 = R from hR.out] at hn ⊢
  obtain ⟨HX⟩ : Nonempty (Hid (Ints w1 p1 A'.path ∧ Ints w1 q1 A'.tags ∧ Kind1 p1 A'.path.length c1 ∧ Kind1 q1 A'.tags.length d1 ∧ (∀ b o, p1 = some ⟨b, o, none⟩ → R < b) ∧ (∀ b o, q1 = some ⟨b, o, none⟩ → R < b) ∧ Below w.heap.size w w1 ∧ w.heap.size ≤ R)) := ⟨⟨i1, i2, k1, k2, fun b o e => by have := n1 b o e; have := HW.out.2.1; rw [← show w.heap.size + 3 = R from hR.out]; omega, fun b o e => by have := n2 b o e; have := HW.out.2.1; rw [← show w.heap.size + 3 = R from hR.out]; omega, HW.out.1.trans (hb1.mono (by have := HW.out.2.1; omega)), by rw [← show w.heap.size + 3 = R from hR.out]; omega⟩⟩
  have r0 : w1.cell? ⟨R, 0, none⟩ = some (.slice none 0 0) := by simp [World.cell?, hn]
  have y0 : w1.frozen? ⟨R, 0, none⟩ = false := by simp [World.frozen?, hn]
  have r1 : w1.cell? ⟨R, 1, none⟩ = some (.int .i64 0) := by simp [World.cell?, hn]
  have y1 : w1.frozen? ⟨R, 1, none⟩ = false := by simp [World.frozen?, hn]
  have r2 : w1.cell? ⟨R, 2, none⟩ = some (.int .i64 0) := by simp [World.cell?, hn]
  have y2 : w1.frozen? ⟨R, 2, none⟩ = false := by simp [World.frozen?, hn]
  have r3 : w1.cell? ⟨R, 3, none⟩ = some (.int .i64 0) := by simp [World.cell?, hn]
  have y3 : w1.frozen? ⟨R, 3, none⟩ = false := by simp [World.frozen?, hn]
  have r4 : w1.cell? ⟨R, 4, none⟩ = some (.slice none 0 0) := by simp [World.cell?, hn]
  have y4 : w1.frozen? ⟨R, 4, none⟩ = false := by simp [World.frozen?, hn]
  clear hn i1 i2 k1 k2 n1 n2 hb1 HCH
  go_wp2_with fail
  obtain ⟨i1, i2, k1, k2, n1, n2, hb, hRb⟩ := HX.out
  refine bodyPost_ret (v := .tuple #[.agg #[.slice p1 A'.path.length c1, .int .i64 A'.pref, .int .i64 A'.med, .int .i64 A'.org, .slice q1 A'.tags.length d1], u]) (by simp [results, Tryz.results11, go_sem, r0, r1, r2, r3, r4]) rfl ⟨⟨_, rfl, p1, c1, q1, d1, rfl, ?_, ?_, k1, k2, fun b o e => by have := n1 b o e; omega, fun b o e => by have := n2 b o e; omega⟩, setFive hb hRb _ _ _ _ _⟩
  · exact ((((i1.set n1 _ _).set n1 _ _).set n1 _ _).set n1 _ _).set n1 _ _
  · exact ((((i2.set n2 _ _).set n2 _ _).set n2 _ _).set n2 _ _).set n2 _ _

set_option linter.unusedSimpArgs false in
set_option linter.unusedVariables false in
set_option maxRecDepth 100000 in
set_option maxHeartbeats 4000000 in
theorem tag_own (v : Value) (A : At) (x : Int) (E : Nat → Addr) (m : Int) (w : World) (hE : AttrEnv w E m) (h : AttrK w v A) (h1 : A.path.length ≤ 1000000) (h2 : A.tags.length ≤ 1000000) :
    Calls Tryz.prog 14 #[v, .int .i64 x] w fun r w' => (∃ v', r = .returned (.tuple #[v', ev E (tagC A x).toNat]) ∧ AttrG w' v' (if tagC A x = 0 then tagA A x else noneA) w.heap.size) ∧ Below w.heap.size w w' := by
  have hk := h
  obtain ⟨p, cp, q, cq, rfl, -, -, -, -⟩ := h
  obtain ⟨W0, hW0⟩ : ∃ W0, Hid ((((w.alloc (.cells #[.slice p A.path.length cp, .int .i64 A.pref, .int .i64 A.med, .int .i64 A.org, .slice q A.tags.length cq] 24)).alloc (.cells #[.int .i64 x] 3)).alloc (.cells #[.slice none 0 0, .int .i64 0, .int .i64 0, .int .i64 0, .slice none 0 0] 24)) = W0) := ⟨_, show _ = _ from rfl⟩
  obtain ⟨hb0, hsz, hn, hc1⟩ : Below w.heap.size w W0 ∧ W0.heap.size = w.heap.size + 3 ∧ W0.heap[w.heap.size + 2]? = some (.cells #[.slice none 0 0, .int .i64 0, .int .i64 0, .int .i64 0, .slice none 0 0] 24 (0, 0)) ∧ W0.cell? ⟨w.heap.size + 1, 0, none⟩ = some (.int .i64 x) := by
    rw [← show (((w.alloc (.cells #[.slice p A.path.length cp, .int .i64 A.pref, .int .i64 A.med, .int .i64 A.org, .slice q A.tags.length cq] 24)).alloc (.cells #[.int .i64 x] 3)).alloc (.cells #[.slice none 0 0, .int .i64 0, .int .i64 0, .int .i64 0, .slice none 0 0] 24)) = W0 from hW0.out]
    refine ⟨((below_alloc w _).alloc (by simp) _).alloc (by simp; omega) _, by simp, ?_, ?_⟩
    · have := Go.heap_alloc_new ((w.alloc (.cells #[.slice p A.path.length cp, .int .i64 A.pref, .int .i64 A.med, .int .i64 A.org, .slice q A.tags.length cq] 24)).alloc (.cells #[.int .i64 x] 3)) (.cells #[.slice none 0 0, .int .i64 0, .int .i64 0, .int .i64 0, .slice none 0 0] 24)
      rw [show ((w.alloc (.cells #[.slice p A.path.length cp, .int .i64 A.pref, .int .i64 A.med, .int .i64 A.org, .slice q A.tags.length cq] 24)).alloc (.cells #[.int .i64 x] 3)).heap.size = w.heap.size + 2 by simp] at this
      exact this
    · refine cell_kept (below_alloc _ _) ?_
      have := box_one (w.alloc (.cells #[.slice p A.path.length cp, .int .i64 A.pref, .int .i64 A.med, .int .i64 A.org, .slice q A.tags.length cq] 24)) (.int .i64 x) 3
      rw [show (w.alloc (.cells #[.slice p A.path.length cp, .int .i64 A.pref, .int .i64 A.med, .int .i64 A.org, .slice q A.tags.length cq] 24)).heap.size = w.heap.size + 1 by simp] at this
      exact this
  obtain ⟨HCH⟩ : Nonempty (Hid (Calls Tryz.prog 36 #[.agg #[.slice p A.path.length cp, .int .i64 A.pref, .int .i64 A.med, .int .i64 A.org, .slice q A.tags.length cq], .func (.func 41) #[] #[.pointer (some ⟨w.heap.size + 1, 0, none⟩)]] W0 fun r w' => (∃ v', r = .returned (.tuple #[v', ev E (tagC A x).toNat]) ∧ AttrG w' v' (if tagC A x = 0 then tagA A x else noneA) W0.heap.size) ∧ Below W0.heap.size W0 w')) := ⟨by
    rcases fault_sign A with hf | hf
    · have hA := right_of_fault (A := A) (by omega)
      have hc0 : (tagC A x).toNat = 0 ↔ tagC A x = 0 := by
        have : 0 ≤ tagC A x := by
          have hs := fault_sign A
          unfold tagC
          (repeat' split) <;> omega
        omega
      have := changed_right1 _ A (tagA A x) 41 (.pointer (some ⟨w.heap.size + 1, 0, none⟩)) (tagC A x).toNat E m W0 (hE.below hb0) (hk.below hb0) hA (tag_changer A x (w.heap.size + 1) E m W0 (hE.below hb0) hA hc1)
      refine this.mono ?_
      rintro r w' ⟨⟨v', e, hg⟩, hb⟩
      refine ⟨⟨v', e, ?_⟩, hb⟩
      by_cases hz : tagC A x = 0
      · rw [if_pos hz]; rw [if_pos (hc0.2 hz)] at hg; exact hg
      · rw [if_neg hz]; rw [if_neg (fun h => hz (hc0.1 h))] at hg; exact hg
    · have hcc : tagC A x = (faultA A).1 := by unfold tagC; rw [if_pos hf]
      have := changed_bad1 _ A 41 (.pointer (some ⟨w.heap.size + 1, 0, none⟩)) E m W0 (hE.below hb0) (hk.below hb0) h1 h2 hf
      rw [hcc, if_neg (by omega)]
      exact this⟩
  obtain ⟨c, hc⟩ : ∃ c, Hid ((tagC A x).toNat = c) := ⟨_, show _ = _ from rfl⟩
  obtain ⟨A', hA'⟩ : ∃ c, Hid ((if tagC A x = 0 then tagA A x else noneA) = c) := ⟨_, show _ = _ from rfl⟩
  rw [show (tagC A x).toNat = c from hc.out, show (if tagC A x = 0 then tagA A x else noneA) = A' from hA'.out] at HCH ⊢
  obtain ⟨u, hu⟩ : ∃ u, Hid (ev E c = u) := ⟨_, show _ = _ from rfl⟩
  rw [show ev E c = u from hu.out] at HCH ⊢
  obtain ⟨HW⟩ : Nonempty (Hid (Below w.heap.size w W0 ∧ W0.heap.size = w.heap.size + 3 ∧ W0.heap[w.heap.size + 2]? = some (.cells #[.slice none 0 0, .int .i64 0, .int .i64 0, .int .i64 0, .slice none 0 0] 24 (0, 0)))) := ⟨⟨hb0, hsz, hn⟩⟩
  clear hE hk h1 h2 hb0 hsz hn hc1
  go_enter Tryz.func14, Tryz.ntmps14
  go_wp2_with fail
  rw [show (((w.alloc (.cells #[.slice p A.path.length cp, .int .i64 A.pref, .int .i64 A.med, .int .i64 A.org, .slice q A.tags.length cq] 24)).alloc (.cells #[.int .i64 x] 3)).alloc (.cells #[.slice none 0 0, .int .i64 0, .int .i64 0, .int .i64 0, .slice none 0 0] 24)) = W0 from hW0.out]
  refine HCH.out.mono ?_
  rintro e w1 ⟨⟨v', rfl, hg⟩, hb1⟩
  obtain ⟨p1, c1, q1, d1, rfl, i1, i2, k1, k2, n1, n2⟩ := hg
  have hn : w1.heap[w.heap.size + 2]? = some (.cells #[.slice none 0 0, .int .i64 0, .int .i64 0, .int .i64 0, .slice none 0 0] 24 (0, 0)) := by rw [hb1.block _ (by have := HW.out.2.1; omega)]; exact HW.out.2.2
  obtain ⟨R, hR⟩ : ∃ R, Hid (w.heap.size + 2 = R) := ⟨_, show _ = _ from rfl⟩
  rw [show w.heap.size + 2 = R from hR.out] at hn ⊢
  obtain ⟨HX⟩ : Nonempty (Hid (Ints w1 p1 A'.path ∧ Ints w1 q1 A'.tags ∧ Kind1 p1 A'.path.length c1 ∧ Kind1 q1 A'.tags.length d1 ∧ (∀ b o, p1 = some ⟨b, o, none⟩ → R < b) ∧ (∀ b o, q1 = some ⟨b, o, none⟩ → R < b) ∧ Below w.heap.size w w1 ∧ w.heap.size ≤ R)) := ⟨⟨i1, i2, k1, k2, fun b o e => by have := n1 b o e; have := HW.out.2.1; rw [← show w.heap.size + 2 = R from hR.out]; omega, fun b o e => by have := n2 b o e; have := HW.out.2.1; rw [← show w.heap.size + 2 = R from hR.out]; omega, HW.out.1.trans (hb1.mono (by have := HW.out.2.1; omega)), by rw [← show w.heap.size + 2 = R from hR.out]; omega⟩⟩
  have r0 : w1.cell? ⟨R, 0, none⟩ = some (.slice none 0 0) := by simp [World.cell?, hn]
  have y0 : w1.frozen? ⟨R, 0, none⟩ = false := by simp [World.frozen?, hn]
  have r1 : w1.cell? ⟨R, 1, none⟩ = some (.int .i64 0) := by simp [World.cell?, hn]
  have y1 : w1.frozen? ⟨R, 1, none⟩ = false := by simp [World.frozen?, hn]
  have r2 : w1.cell? ⟨R, 2, none⟩ = some (.int .i64 0) := by simp [World.cell?, hn]
  have y2 : w1.frozen? ⟨R, 2, none⟩ = false := by simp [World.frozen?, hn]
  have r3 : w1.cell? ⟨R, 3, none⟩ = some (.int .i64 0) := by simp [World.cell?, hn]
  have y3 : w1.frozen? ⟨R, 3, none⟩ = false := by simp [World.frozen?, hn]
  have r4 : w1.cell? ⟨R, 4, none⟩ = some (.slice none 0 0) := by simp [World.cell?, hn]
  have y4 : w1.frozen? ⟨R, 4, none⟩ = false := by simp [World.frozen?, hn]
  clear hn i1 i2 k1 k2 n1 n2 hb1 HCH
  go_wp2_with fail
  obtain ⟨i1, i2, k1, k2, n1, n2, hb, hRb⟩ := HX.out
  refine bodyPost_ret (v := .tuple #[.agg #[.slice p1 A'.path.length c1, .int .i64 A'.pref, .int .i64 A'.med, .int .i64 A'.org, .slice q1 A'.tags.length d1], u]) (by simp [results, Tryz.results14, go_sem, r0, r1, r2, r3, r4]) rfl ⟨⟨_, rfl, p1, c1, q1, d1, rfl, ?_, ?_, k1, k2, fun b o e => by have := n1 b o e; omega, fun b o e => by have := n2 b o e; omega⟩, setFive hb hRb _ _ _ _ _⟩
  · exact ((((i1.set n1 _ _).set n1 _ _).set n1 _ _).set n1 _ _).set n1 _ _
  · exact ((((i2.set n2 _ _).set n2 _ _).set n2 _ _).set n2 _ _).set n2 _ _
theorem lead_any (v : Value) (A : At) (x n : Int) (E : Nat → Addr) (m : Int) (w : World) (hE : AttrEnv w E m) (h : AttrK w v A) (h1 : A.path.length ≤ 1000000) (h2 : A.tags.length ≤ 1000000) :
    Calls Tryz.prog 11 #[v, .int .i64 x, .int .i64 n] w fun r w' => (∃ v', r = .returned (.tuple #[v', ev E (leadC A x n).toNat]) ∧ AttrK w' v' (if leadC A x n = 0 then leadA A x n else noneA)) ∧ Below w.heap.size w w' :=
  (lead_own v A x n E m w hE h h1 h2).mono fun _ _ ⟨⟨v', e, k⟩, b⟩ => ⟨⟨v', e, k.attrK⟩, b⟩
theorem tag_any (v : Value) (A : At) (x : Int) (E : Nat → Addr) (m : Int) (w : World) (hE : AttrEnv w E m) (h : AttrK w v A) (h1 : A.path.length ≤ 1000000) (h2 : A.tags.length ≤ 1000000) :
    Calls Tryz.prog 14 #[v, .int .i64 x] w fun r w' => (∃ v', r = .returned (.tuple #[v', ev E (tagC A x).toNat]) ∧ AttrK w' v' (if tagC A x = 0 then tagA A x else noneA)) ∧ Below w.heap.size w w' :=
  (tag_own v A x E m w hE h h1 h2).mono fun _ _ ⟨⟨v', e, k⟩, b⟩ => ⟨⟨v', e, k.attrK⟩, b⟩
end Go.Proofs.YtkebcfjofeoehaaGreatDoor
