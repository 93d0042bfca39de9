/-
  The document's ApplyOf: what it leans on; what it returns where something is wrong, and where there are no rules.
-/
import Derived.Test.YtnifhaopjhgmnaaGreatDoorRefRule
import Derived.Test.YtnifhaopjhgmnaaGreatDoorAttrTagIn
import Derived.Test.YtnifhaopjhgmnaaGreatDoorGF
import Derived.Deep.Cut
import Derived.Deep.CutRange
namespace Go.Proofs.YtnifhaopjhgmnaaGreatDoor
open Go.RowKit

/-- an attribute's value whose rows lie in none of the four boxes from B on. -/
def AttrP (w : World) (v : Value) (A : At) (B : Nat) : Prop := AttrLp w v A (fun b => b < B ∨ B + 3 < b)
theorem Ints.setP {w : World} {p : Option Addr} {L : List Int} (h : Ints w p L) {R : Nat} (hne : ∀ b o, p = some ⟨b, o, none⟩ → 0 < L.length → b ≠ R) (k : Nat) (u : Value) : Ints (w.setCell ⟨R, k, none⟩ u) p L := fun i hi => by
  obtain ⟨b, o, e, c⟩ := h i hi
  have := hne b o e (by omega)
  exact ⟨b, o, e, by rw [World.cell?_setCell_other _ _ _ _ (by intro he; simp at he <;> omega)]; exact c⟩
theorem AttrP.attrK {w : World} {v : Value} {A : At} {B : Nat} (h : AttrP w v A B) : AttrK w v A := AttrLp.attrK h
theorem AttrP.on {w w' : World} {v : Value} {A : At} {B : Nat} (h : AttrP w v A B) (hb : Below w.heap.size w w') : AttrP w' v A B := by
  obtain ⟨p, cp, q, cq, e, i1, i2, k1, k2, n1, n2⟩ := h
  exact ⟨p, cp, q, cq, e, i1.below hb, i2.below hb, k1, k2, n1, n2⟩
theorem AttrP.set {w : World} {v : Value} {A : At} {B R : Nat} (h : AttrP w v A B) (h1 : B ≤ R) (h2 : R ≤ B + 3) (k : Nat) (u : Value) : AttrP (w.setCell ⟨R, k, none⟩ u) v A B := by
  obtain ⟨p, cp, q, cq, e, i1, i2, k1, k2, n1, n2⟩ := h
  exact ⟨p, cp, q, cq, e, i1.setP (fun b o e h => by have := n1 b o e h; omega) _ _, i2.setP (fun b o e h => by have := n2 b o e h; omega) _ _, k1, k2, n1, n2⟩
theorem attrP_of {w : World} {v : Value} {A : At} {B : Nat} (h : AttrK w v A) (hB : w.heap.size = B) : AttrP w v A B := by
  obtain ⟨p, cp, q, cq, e, h1, h2, h3, h4⟩ := h
  exact ⟨p, cp, q, cq, e, h1, h2, h3, h4, fun b o e hl => .inl (by have := ints_lt h1 e hl; omega), fun b o e hl => .inl (by have := ints_lt h2 e hl; omega)⟩
theorem attrP_h {w : World} {v : Value} {A : At} {B Hi : Nat} (h : AttrHp w v A (fun b => b < B ∨ B + 3 < b) Hi) (hH : B + 3 < Hi) : AttrP w v A B := by
  obtain ⟨p, cp, q, cq, e, h1, h2, h3, h4, n1, n2⟩ := h
  exact ⟨p, cp, q, cq, e, h1, h2, h3, h4, fun b o e hl => (n1 b o e hl).elim id (fun h => .inr (by omega)), fun b o e hl => (n2 b o e hl).elim id (fun h => .inr (by omega))⟩
/-- four boxes: a prefix's, an attribute's, the answer's attribute and fault. -/
def AO (w wr : World) (B : Nat) (ta tn : Int) (va : Array Value) : Prop :=
  wr.heap[B]? = some (.cells #[.int .i64 ta, .int .i64 tn] 24 (0, 0)) ∧ wr.heap[B + 1]? = some (.cells va 27 (0, 0)) ∧ wr.heap[B + 2]? = some (.cells #[.slice none 0 0, .int .i64 0, .int .i64 0, .int .i64 0, .slice none 0 0] 27 (0, 0)) ∧ wr.heap[B + 3]? = some (.cells #[.int .i64 0, .int .i64 0] 36 (0, 0)) ∧ Below B w wr
theorem AO.size {w wr : World} {B : Nat} {ta tn : Int} {va : Array Value} (h : AO w wr B ta tn va) : B + 3 < wr.heap.size := (Array.getElem?_eq_some_iff.1 h.2.2.2.1).1
theorem AO.on {w wr w' : World} {B : Nat} {ta tn : Int} {va : Array Value} (h : AO w wr B ta tn va) (hb : Below wr.heap.size wr w') : AO w w' B ta tn va := by
  have l := h.size
  obtain ⟨a, b, c, d, e⟩ := h
  exact ⟨by rw [hb.block _ (by omega)]; exact a, by rw [hb.block _ (by omega)]; exact b, by rw [hb.block _ (by omega)]; exact c, by rw [hb.block _ l]; exact d, e.trans (hb.mono (by omega))⟩
theorem AO.setA {w wr : World} {B : Nat} {ta tn : Int} {va : Array Value} (h : AO w wr B ta tn va) (k : Nat) (u : Value) : AO w (wr.setCell ⟨B + 1, k, none⟩ u) B ta tn (va.setIfInBounds k u) :=
  ⟨by rw [Below.heap_setCell _ _ _ _ (by simp)]; exact h.1, heap_setCell_same wr (B + 1) k va _ u h.2.1, by rw [Below.heap_setCell _ _ _ _ (by simp)]; exact h.2.2.1, by rw [Below.heap_setCell _ _ _ _ (by simp)]; exact h.2.2.2.1, h.2.2.2.2.setCell (by simp) _⟩
theorem AO.setO {w wr : World} {B O : Nat} {ta tn : Int} {va : Array Value} (h : AO w wr B ta tn va) (hO : B + 3 < O) (k : Nat) (u : Value) : AO w (wr.setCell ⟨O, k, none⟩ u) B ta tn va :=
  ⟨by rw [Below.heap_setCell _ _ _ _ (by simp; omega)]; exact h.1, by rw [Below.heap_setCell _ _ _ _ (by simp; omega)]; exact h.2.1, by rw [Below.heap_setCell _ _ _ _ (by simp; omega)]; exact h.2.2.1, by rw [Below.heap_setCell _ _ _ _ (by simp; omega)]; exact h.2.2.2.1, h.2.2.2.2.setCell (by simp; omega) _⟩
theorem ao_start (w : World) (ta tn : Int) (va : Array Value) : AO w ((((w.alloc (.cells #[.int .i64 ta, .int .i64 tn] 24)).alloc (.cells va 27)).alloc (.cells #[.slice none 0 0, .int .i64 0, .int .i64 0, .int .i64 0, .slice none 0 0] 27)).alloc (.cells #[.int .i64 0, .int .i64 0] 36)) w.heap.size ta tn va := by
  have h := pb_start w ta tn va #[.slice none 0 0, .int .i64 0, .int .i64 0, .int .i64 0, .slice none 0 0]
  obtain ⟨w1, hw1⟩ : ∃ w1, (((w.alloc (.cells #[.int .i64 ta, .int .i64 tn] 24)).alloc (.cells va 27)).alloc (.cells #[.slice none 0 0, .int .i64 0, .int .i64 0, .int .i64 0, .slice none 0 0] 27)) = w1 := ⟨_, rfl⟩
  have hs : w1.heap.size = w.heap.size + 3 := by rw [← hw1]; simp
  rw [hw1] at h ⊢
  have b := below_alloc w1 (.cells #[.int .i64 0, .int .i64 0] 36)
  have h4 := Go.heap_alloc_new w1 (.cells #[.int .i64 0, .int .i64 0] 36)
  rw [hs] at h4
  have := h.on b
  exact ⟨this.1, this.2.1, this.2.2.1, h4, this.2.2.2⟩
theorem AO.pre {w wr : World} {B : Nat} {ta tn : Int} {va : Array Value} (h : AO w wr B ta tn va) : wr.cell? ⟨B, 0, none⟩ = some (.int .i64 ta) ∧ wr.cell? ⟨B, 1, none⟩ = some (.int .i64 tn) := by
  constructor <;> simp [World.cell?, h.1]
theorem AO.arg {w wr : World} {B : Nat} {ta tn : Int} {a b c d e : Value} (h : AO w wr B ta tn #[a, b, c, d, e]) : wr.cell? ⟨B + 1, 0, none⟩ = some a ∧ wr.cell? ⟨B + 1, 1, none⟩ = some b ∧ wr.cell? ⟨B + 1, 2, none⟩ = some c ∧ wr.cell? ⟨B + 1, 3, none⟩ = some d ∧ wr.cell? ⟨B + 1, 4, none⟩ = some e := by
  refine ⟨?_, ?_, ?_, ?_, ?_⟩ <;> simp [World.cell?, h.2.1]
theorem AO.res {w wr : World} {B : Nat} {ta tn : Int} {va : Array Value} (h : AO w wr B ta tn va) : wr.cell? ⟨B + 2, 0, none⟩ = some (.slice none 0 0) ∧ wr.cell? ⟨B + 2, 1, none⟩ = some (.int .i64 0) ∧ wr.cell? ⟨B + 2, 2, none⟩ = some (.int .i64 0) ∧ wr.cell? ⟨B + 2, 3, none⟩ = some (.int .i64 0) ∧ wr.cell? ⟨B + 2, 4, none⟩ = some (.slice none 0 0) ∧ wr.cell? ⟨B + 3, 0, none⟩ = some (.int .i64 0) ∧ wr.cell? ⟨B + 3, 1, none⟩ = some (.int .i64 0) := by
  refine ⟨?_, ?_, ?_, ?_, ?_, ?_, ?_⟩ <;> simp [World.cell?, h.2.2.1, h.2.2.2.1]
theorem AO.soft {w wr : World} {B : Nat} {ta tn : Int} {va : Array Value} (h : AO w wr B ta tn va) (k : Nat) : wr.frozen? ⟨B + 1, k, none⟩ = false ∧ wr.frozen? ⟨B + 2, k, none⟩ = false ∧ wr.frozen? ⟨B + 3, k, none⟩ = false := by
  refine ⟨?_, ?_, ?_⟩ <;> simp [World.frozen?, h.2.1, h.2.2.1, h.2.2.2.1]
/-- what is wrong, in the document's steps. -/
theorem all_steps (L : List Rl) (ta tn : Int) (A : At) (c1 k1 cp ca g1 h1 g2 h2 : Int) (e1 : ((rulesC L).1 : Int) = c1) (e2 : (rulesC L).2 = k1) (e3 : (chkC ta tn : Int) = cp) (e4 : (faultA A).1 = ca)
    (e5 : (if c1 = 0 then cp else c1) = g1) (e6 : (if c1 = 0 then -1 else k1) = h1) (e7 : (if g1 = 0 then ca else g1) = g2) (e8 : (if g1 = 0 then -1 else h1) = h2) :
    (((allC L ta tn A).1 : Nat) : Int) = g2 ∧ (0 < (allC L ta tn A).1 → (allC L ta tn A).2 = h2) ∧ 0 ≤ g2 := by
  have hs := fault_sign A
  unfold allC
  subst e1 e2 e3 e4 e5 e6 e7 e8
  by_cases a : 0 < (rulesC L).1
  · have a1 : ¬ (((rulesC L).1 : Nat) : Int) = 0 := by omega
    simp only [if_pos a, if_neg a1]
    exact ⟨by first | rfl | trivial, fun _ => by first | rfl | trivial, by omega⟩
  · have a1 : (((rulesC L).1 : Nat) : Int) = 0 := by omega
    by_cases b : 0 < chkC ta tn
    · have b1 : ¬ ((chkC ta tn : Nat) : Int) = 0 := by omega
      simp only [if_neg a, if_pos a1, if_pos b, if_neg b1]
      exact ⟨by first | rfl | trivial, fun _ => by first | rfl | trivial, by omega⟩
    · have b1 : ((chkC ta tn : Nat) : Int) = 0 := by omega
      simp only [if_neg a, if_pos a1, if_neg b, if_pos b1]
      exact ⟨by omega, fun _ => by first | rfl | trivial, by omega⟩
theorem set5_n {wr : World} {R : Nat} {x0 x1 x2 x3 x4 : Value} (h : wr.heap[R]? = some (.cells #[x0, x1, x2, x3, x4] 27 (0, 0))) (a b c d e : Value) : (((((wr.setCell ⟨R, 0, none⟩ a).setCell ⟨R, 1, none⟩ b).setCell ⟨R, 2, none⟩ c).setCell ⟨R, 3, none⟩ d).setCell ⟨R, 4, none⟩ e).heap[R]? = some (.cells #[a, b, c, d, e] 27 (0, 0)) := by
  have := set5_at h a b c d e
  rwa [heap_drew] at this
theorem five_n (w : World) (R O : Nat) (hne : O ≠ R) (a b c d e : Value) : (((((w.setCell ⟨R, 0, none⟩ a).setCell ⟨R, 1, none⟩ b).setCell ⟨R, 2, none⟩ c).setCell ⟨R, 3, none⟩ d).setCell ⟨R, 4, none⟩ e).heap[O]? = w.heap[O]? := by
  rw [Below.heap_setCell _ _ _ _ (by simpa using hne), Below.heap_setCell _ _ _ _ (by simpa using hne), Below.heap_setCell _ _ _ _ (by simpa using hne), Below.heap_setCell _ _ _ _ (by simpa using hne), Below.heap_setCell _ _ _ _ (by simpa using hne)]
theorem AO.setA5 {w wr : World} {B : Nat} {ta tn : Int} {x0 x1 x2 x3 x4 : Value} (h : AO w wr B ta tn #[x0, x1, x2, x3, x4]) (a b c d e : Value) : AO w (((((wr.setCell ⟨B + 1, 0, none⟩ a).setCell ⟨B + 1, 1, none⟩ b).setCell ⟨B + 1, 2, none⟩ c).setCell ⟨B + 1, 3, none⟩ d).setCell ⟨B + 1, 4, none⟩ e) B ta tn #[a, b, c, d, e] := by
  have := ((((h.setA 0 a).setA 1 b).setA 2 c).setA 3 d).setA 4 e
  simpa using this
theorem AttrP.set5 {w : World} {v : Value} {A : At} {B R : Nat} (h : AttrP w v A B) (h1 : B ≤ R) (h2 : R ≤ B + 3) (a b c d e : Value) : AttrP (((((w.setCell ⟨R, 0, none⟩ a).setCell ⟨R, 1, none⟩ b).setCell ⟨R, 2, none⟩ c).setCell ⟨R, 3, none⟩ d).setCell ⟨R, 4, none⟩ e) v A B :=
  ((((h.set h1 h2 _ _).set h1 h2 _ _).set h1 h2 _ _).set h1 h2 _ _).set h1 h2 _ _
theorem RuleAt.other5 {w : World} {b o : Nat} {r : Rl} (h : RuleAt w b o r) {R : Nat} (hR : b ≠ R) (a c d e f : Value) : RuleAt (((((w.setCell ⟨R, 0, none⟩ a).setCell ⟨R, 1, none⟩ c).setCell ⟨R, 2, none⟩ d).setCell ⟨R, 3, none⟩ e).setCell ⟨R, 4, none⟩ f) b o r :=
  ((((h.other hR _ _).other hR _ _).other hR _ _).other hR _ _).other hR _ _
theorem firstQ_zero {q : Nat → Nat} {n : Nat} (h : (firstQ q n).1 = 0) (k : Nat) (hk : k < n) : q k = 0 := by
  have hs := firstN_spec (fun k => decide (q k ≠ 0)) n
  unfold firstQ at h
  by_cases hl : firstN (fun k => decide (q k ≠ 0)) n < n
  · rw [if_pos hl] at h
    exact absurd h (of_decide_eq_true (hs.2.2 hl))
  · have := hs.2.1 k (by omega)
    simpa using this
theorem rules_right {L : List Rl} {ta tn : Int} {A : At} (h : ¬ 0 < (allC L ta tn A).1) (k : Nat) (hk : k < L.length) : chkR (ruleN L k) = 0 := by
  have h0 : (rulesC L).1 = 0 := by
    unfold allC at h
    by_cases a : 0 < (rulesC L).1
    · rw [if_pos a] at h; omega
    · omega
  unfold rulesC at h0
  by_cases a : 10 < L.length
  · rw [if_pos a] at h0; simp at h0
  · rw [if_neg a] at h0
    exact firstQ_zero h0 k hk
theorem rule_add {r : Rl} (h : chkR r = 0) : 0 ≤ r.add := by
  unfold chkR at h
  by_cases a : 0 < chkC r.wa r.wn
  · rw [if_pos a] at h; omega
  · rw [if_neg a] at h
    by_cases b : (asksB r && changesB r) = true
    · simp only [asksB, changesB, inB3, Bool.and_eq_true, decide_eq_true_eq] at b
      omega
    · rw [if_neg b] at h; omega

set_option linter.unusedSimpArgs false in
set_option linter.unusedVariables false in
set_option maxRecDepth 100000 in
set_option maxHeartbeats 8000000 in
theorem rApply_bad (p : Option Addr) (L : List Rl) (cp : Nat) (x ta tn : Int) (v : Value) (A : At) (w : World) (h : Rules w p L) (ha : AttrK w v A) (hl : L.length ≤ 1000000) (h1 : A.path.length ≤ 1000) (h2 : A.tags.length ≤ 1000)
    (hc : 0 < (allC L ta tn A).1) :
    Calls Tryz.prog 14 #[.slice p L.length cp, .int .i64 x, .agg #[.int .i64 ta, .int .i64 tn], v] w fun r w' => (∃ v', r = .returned (.tuple #[v', .bool false, .agg #[.int .i64 ((allC L ta tn A).1 : Nat), .int .i64 (allC L ta tn A).2]]) ∧ AttrK w' v' noneA) ∧ Below w.heap.size w w' := by
  have ha0 := ha
  obtain ⟨p0, cp0, q0, cq0, rfl, i1, i2, k1, k2⟩ := ha
  obtain ⟨c1, hc1⟩ : ∃ c : Int, Hid (((rulesC L).1 : Int) = c) := ⟨_, show _ = _ from rfl⟩
  obtain ⟨d1, hd1⟩ : ∃ c : Int, Hid ((rulesC L).2 = c) := ⟨_, show _ = _ from rfl⟩
  obtain ⟨cq, hcq⟩ : ∃ c : Int, Hid ((chkC ta tn : Int) = c) := ⟨_, show _ = _ from rfl⟩
  obtain ⟨ca, hca⟩ : ∃ c : Int, Hid ((faultA A).1 = c) := ⟨_, show _ = _ from rfl⟩
  obtain ⟨da, hda⟩ : ∃ c : Int, Hid ((faultA A).2 = c) := ⟨_, show _ = _ from rfl⟩
  obtain ⟨g1, hg1⟩ : ∃ c : Int, Hid ((if c1 = 0 then cq else c1) = c) := ⟨_, show _ = _ from rfl⟩
  obtain ⟨e1, he1⟩ : ∃ c : Int, Hid ((if c1 = 0 then -1 else d1) = c) := ⟨_, show _ = _ from rfl⟩
  obtain ⟨g2, hg2⟩ : ∃ c : Int, Hid ((if g1 = 0 then ca else g1) = c) := ⟨_, show _ = _ from rfl⟩
  obtain ⟨e2, he2⟩ : ∃ c : Int, Hid ((if g1 = 0 then -1 else e1) = c) := ⟨_, show _ = _ from rfl⟩
  have HALL := all_steps L ta tn A c1 d1 cq ca g1 e1 g2 e2 hc1.out hd1.out hcq.out hca.out hg1.out he1.out hg2.out he2.out
  obtain ⟨HRF⟩ : Nonempty (Hid (∀ w', Below w.heap.size w w' → Calls _ _ _ _ _)) := ⟨fun w' hb => rRulesFault_any p L cp w' (h.below hb) hl c1 d1 ⟨hc1.out, hd1.out⟩⟩
  obtain ⟨HPE⟩ : Nonempty (Hid (∀ w', Calls _ _ _ _ _)) := ⟨fun w' => rPrefixError_at ta tn cq hcq w'⟩
  obtain ⟨HAF⟩ : Nonempty (Hid (∀ w', Below w.heap.size w w' → Calls _ _ _ _ _)) := ⟨fun w' hb => rAttrFault_any (.agg #[.slice p0 A.path.length cp0, .int .i64 A.pref, .int .i64 A.med, .int .i64 A.org, .slice q0 A.tags.length cq0]) A w' (ha0.below hb).attr (by omega) (by omega) ca da (by show _ = _; rw [← hca.out, ← hda.out])⟩
  obtain ⟨HG1⟩ : Nonempty (Hid ((c1 = 0 → g1 = cq ∧ e1 = -1) ∧ (¬ c1 = 0 → g1 = c1 ∧ e1 = d1) ∧ (g1 = 0 → g2 = ca ∧ e2 = -1) ∧ (¬ g1 = 0 → g2 = g1 ∧ e2 = e1))) := ⟨by
    rw [← hg2.out, ← he2.out, ← hg1.out, ← he1.out]
    exact ⟨fun h => by simp [h], fun h => by simp [h], fun h => by simp [h], fun h => by simp [h]⟩⟩
  rw [HALL.1, HALL.2.1 hc]
  obtain ⟨HG⟩ : Nonempty (Hid (0 < g2 ∧ True)) := ⟨⟨by have := HALL.1; omega, trivial⟩⟩
  obtain ⟨HO⟩ : Nonempty (Hid (AO w _ w.heap.size ta tn #[.slice p0 A.path.length cp0, .int .i64 A.pref, .int .i64 A.med, .int .i64 A.org, .slice q0 A.tags.length cq0])) := ⟨ao_start w ta tn _⟩
  obtain ⟨W0, hW0⟩ : ∃ W0, Hid ((((w.alloc (.cells #[.int .i64 ta, .int .i64 tn] 24)).alloc (.cells #[.slice p0 A.path.length cp0, .int .i64 A.pref, .int .i64 A.med, .int .i64 A.org, .slice q0 A.tags.length cq0] 27)).alloc (.cells #[.slice none 0 0, .int .i64 0, .int .i64 0, .int .i64 0, .slice none 0 0] 27)).alloc (.cells #[.int .i64 0, .int .i64 0] 36) = W0) := ⟨_, show _ = _ from rfl⟩
  rw [show (((w.alloc (.cells #[.int .i64 ta, .int .i64 tn] 24)).alloc (.cells #[.slice p0 A.path.length cp0, .int .i64 A.pref, .int .i64 A.med, .int .i64 A.org, .slice q0 A.tags.length cq0] 27)).alloc (.cells #[.slice none 0 0, .int .i64 0, .int .i64 0, .int .i64 0, .slice none 0 0] 27)).alloc (.cells #[.int .i64 0, .int .i64 0] 36) = W0 from hW0.out] at HO
  obtain ⟨B, hB⟩ : ∃ B, Hid (w.heap.size = B) := ⟨_, show _ = _ from rfl⟩
  clear hc1 hd1 hcq hca hda hg1 he1 hg2 he2 h h1 h2 i1 i2 k1 k2 ha0 HALL hc hl
  go_enter Tryz.func14, Tryz.ntmps14
  go_wp2_with fail
  rw [show (((w.alloc (.cells #[.int .i64 ta, .int .i64 tn] 24)).alloc (.cells #[.slice p0 A.path.length cp0, .int .i64 A.pref, .int .i64 A.med, .int .i64 A.org, .slice q0 A.tags.length cq0] 27)).alloc (.cells #[.slice none 0 0, .int .i64 0, .int .i64 0, .int .i64 0, .slice none 0 0] 27)).alloc (.cells #[.int .i64 0, .int .i64 0] 36) = W0 from hW0.out]
  clear hW0
  rw [show w.heap.size = B from hB.out] at HO HRF HAF ⊢
  refine (HRF.out W0 HO.out.2.2.2.2).mono ?_
  rintro e w1 ⟨rfl, hb1⟩
  obtain ⟨HO1⟩ : Nonempty (Hid (AO w w1 B ta tn #[.slice p0 A.path.length cp0, .int .i64 A.pref, .int .i64 A.med, .int .i64 A.org, .slice q0 A.tags.length cq0])) := ⟨HO.out.on hb1⟩
  obtain ⟨FB0, hFB⟩ : ∃ b, Hid (w1.heap.size = b) := ⟨_, show _ = _ from rfl⟩
  obtain ⟨W1, hW1⟩ : ∃ y, Hid (w1.alloc (.cells #[.int .i64 c1, .int .i64 d1] 36) = y) := ⟨_, show _ = _ from rfl⟩
  obtain ⟨HF1⟩ : Nonempty (Hid (AO w W1 B ta tn #[.slice p0 A.path.length cp0, .int .i64 A.pref, .int .i64 A.med, .int .i64 A.org, .slice q0 A.tags.length cq0] ∧ W1.heap[FB0]? = some (.cells #[.int .i64 c1, .int .i64 d1] 36 (0, 0)) ∧ B + 3 < FB0)) := ⟨by
    rw [← show w1.alloc (.cells #[.int .i64 c1, .int .i64 d1] 36) = W1 from hW1.out, ← show w1.heap.size = FB0 from hFB.out]
    exact ⟨HO1.out.on (below_alloc _ _), Go.heap_alloc_new _ _, HO1.out.size⟩⟩
  clear HO hb1 HRF
  go_upto_if 20 with fail
  rw [show w1.alloc (.cells #[.int .i64 c1, .int .i64 d1] 36) = W1 from hW1.out, show w1.heap.size = FB0 from hFB.out]
  clear hW1 hFB HO1
  go_cut [] from 16 (fun w' => ∃ W : World, Hid (AO w W B ta tn #[.slice p0 A.path.length cp0, .int .i64 A.pref, .int .i64 A.med, .int .i64 A.org, .slice q0 A.tags.length cq0] ∧ W.heap[FB0]? = some (.cells #[.int .i64 g1, .int .i64 e1] 36 (0, 0)) ∧ B + 3 < FB0) ∧ W = w')
  case first =>
    have hf := HF1.out.2.1
    have f0 : W1.cell? ⟨FB0, 0, none⟩ = some (.int .i64 c1) := by simp [World.cell?, hf]
    by_cases hz : c1 = 0
    · obtain ⟨rfl, rfl⟩ := HG1.out.1 hz
      subst hz
      obtain ⟨a0, a1⟩ := HF1.out.1.pre
      clear hf
      go_wp2_with fail
      refine (HPE.out _).mono ?_
      rintro e w2 ⟨rfl, hb2⟩
      obtain ⟨HF2⟩ : Nonempty (Hid (AO w w2 B ta tn #[.slice p0 A.path.length cp0, .int .i64 A.pref, .int .i64 A.med, .int .i64 A.org, .slice q0 A.tags.length cq0] ∧ w2.heap[FB0]? = some (.cells #[.int .i64 0, .int .i64 d1] 36 (0, 0)))) := ⟨⟨HF1.out.1.on hb2, by rw [hb2.block _ (Array.getElem?_eq_some_iff.1 HF1.out.2.1).1]; exact HF1.out.2.1⟩⟩
      clear hb2 a0 a1 f0
      go_wp2_with fail
      refine (aBare_any _ _).mono ?_
      rintro e w3 ⟨rfl, hb3⟩
      obtain ⟨HF3⟩ : Nonempty (Hid (AO w w3 B ta tn #[.slice p0 A.path.length cp0, .int .i64 A.pref, .int .i64 A.med, .int .i64 A.org, .slice q0 A.tags.length cq0] ∧ w3.heap[FB0]? = some (.cells #[.int .i64 0, .int .i64 d1] 36 (0, 0)))) := ⟨⟨HF2.out.1.on hb3, by rw [hb3.block _ (Array.getElem?_eq_some_iff.1 HF2.out.2).1]; exact HF2.out.2⟩⟩
      have hf := HF3.out.2
      have f0 : w3.cell? ⟨FB0, 0, none⟩ = some (.int .i64 0) := by simp [World.cell?, hf]
      have f1 : w3.cell? ⟨FB0, 1, none⟩ = some (.int .i64 d1) := by simp [World.cell?, hf]
      have y0 : w3.frozen? ⟨FB0, 0, none⟩ = false := by simp [World.frozen?, hf]
      have y1 : w3.frozen? ⟨FB0, 1, none⟩ = false := by simp [World.frozen?, hf]
      clear hb3 hf HF2
      go_wp2_with fail
      go_meet
      refine ⟨_, ⟨(HF3.out.1.setO HF1.out.2.2 _ _).setO HF1.out.2.2 _ _, ?_, HF1.out.2.2⟩, rfl⟩
      have h1 := heap_setCell_same _ FB0 1 _ _ (.int .i64 (-1)) (heap_setCell_same _ FB0 0 _ _ (.int .i64 g1) HF3.out.2)
      simpa using h1
    · obtain ⟨rfl, rfl⟩ := HG1.out.2.1 hz
      have hz' : (g1 == 0) = false := by rw [beq_eq_false_iff_ne]; exact hz
      clear hf
      go_wp2_with fail
      go_meet
      exact ⟨_, HF1.out, rfl⟩
  case rest =>
    obtain ⟨W2, HF2, hw2⟩ := hcut
    subst hw2
    clear HF1 HPE
    have hf := HF2.out.2.1
    have f0 : W2.cell? ⟨FB0, 0, none⟩ = some (.int .i64 g1) := by simp [World.cell?, hf]
    clear hf
    go_upto_if 26 with fail
    go_cut [] from 16 (fun w' => ∃ W : World, Hid (AO w W B ta tn #[.slice p0 A.path.length cp0, .int .i64 A.pref, .int .i64 A.med, .int .i64 A.org, .slice q0 A.tags.length cq0] ∧ W.heap[FB0]? = some (.cells #[.int .i64 g2, .int .i64 e2] 36 (0, 0)) ∧ B + 3 < FB0) ∧ W = w')
    case first =>
      by_cases hz : g1 = 0
      · obtain ⟨rfl, rfl⟩ := HG1.out.2.2.1 hz
        subst hz
        obtain ⟨a0, a1, a2, a3, a4⟩ := HF2.out.1.arg
        go_wp2_with fail
        refine (HAF.out _ HF2.out.1.2.2.2.2).mono ?_
        rintro e w3 ⟨rfl, hb3⟩
        obtain ⟨HF3⟩ : Nonempty (Hid (AO w w3 B ta tn #[.slice p0 A.path.length cp0, .int .i64 A.pref, .int .i64 A.med, .int .i64 A.org, .slice q0 A.tags.length cq0] ∧ w3.heap[FB0]? = some (.cells #[.int .i64 0, .int .i64 e1] 36 (0, 0)))) := ⟨⟨HF2.out.1.on hb3, by rw [hb3.block _ (Array.getElem?_eq_some_iff.1 HF2.out.2.1).1]; exact HF2.out.2.1⟩⟩
        have hfd := field_code g2 da
        clear hb3 a0 a1 a2 a3 a4 f0
        go_wp2_with fail
        refine (aBare_any _ _).mono ?_
        rintro e w4 ⟨rfl, hb4⟩
        obtain ⟨HF4⟩ : Nonempty (Hid (AO w w4 B ta tn #[.slice p0 A.path.length cp0, .int .i64 A.pref, .int .i64 A.med, .int .i64 A.org, .slice q0 A.tags.length cq0] ∧ w4.heap[FB0]? = some (.cells #[.int .i64 0, .int .i64 e1] 36 (0, 0)))) := ⟨⟨HF3.out.1.on hb4, by rw [hb4.block _ (Array.getElem?_eq_some_iff.1 HF3.out.2).1]; exact HF3.out.2⟩⟩
        have hf := HF4.out.2
        have f0 : w4.cell? ⟨FB0, 0, none⟩ = some (.int .i64 0) := by simp [World.cell?, hf]
        have f1 : w4.cell? ⟨FB0, 1, none⟩ = some (.int .i64 e1) := by simp [World.cell?, hf]
        have y0 : w4.frozen? ⟨FB0, 0, none⟩ = false := by simp [World.frozen?, hf]
        have y1 : w4.frozen? ⟨FB0, 1, none⟩ = false := by simp [World.frozen?, hf]
        clear hb4 hf HF3
        go_wp2_with fail
        go_meet
        refine ⟨_, ⟨(HF4.out.1.setO HF2.out.2.2 _ _).setO HF2.out.2.2 _ _, ?_, HF2.out.2.2⟩, rfl⟩
        have h1 := heap_setCell_same _ FB0 1 _ _ (.int .i64 (-1)) (heap_setCell_same _ FB0 0 _ _ (.int .i64 g2) HF4.out.2)
        simpa using h1
      · obtain ⟨rfl, rfl⟩ := HG1.out.2.2.2 hz
        have hz' : (g2 == 0) = false := by rw [beq_eq_false_iff_ne]; exact hz
        go_wp2_with fail
        go_meet
        exact ⟨_, HF2.out, rfl⟩
    case rest =>
      obtain ⟨W3, HF3, hw3⟩ := hcut
      subst hw3
      clear HF2 HAF f0 HG1
      have hf := HF3.out.2.1
      have f0 : W3.cell? ⟨FB0, 0, none⟩ = some (.int .i64 g2) := by simp [World.cell?, hf]
      have f1 : W3.cell? ⟨FB0, 1, none⟩ = some (.int .i64 e2) := by simp [World.cell?, hf]
      clear hf
      have hpos : 0 < g2 := HG.out.1
      go_upto_region 7 with fail
      refine wp_region_noPanic ?_
      refine wp_region_held_drew (S := (fun w' => w'.cell? ⟨FB0, 0, none⟩ = some (.int .i64 g2) ∧ w'.cell? ⟨FB0, 1, none⟩ = some (.int .i64 e2))) (by kernel_rfl) ?_ (fun hHeld => ?_)
      · exact ⟨f0, f1⟩
      refine wpAnyH_take (i := 0) (v := ?_) rfl (by kernel_rfl) (by kernel_rfl) (by kernel_rfl) (fun _ _ _ h => h) (Or.inl ⟨by rfl, ?_⟩) (by assumption) ?_
      rotate_left
      · (intro w hSw; (try dsimp only at hSw); go_simp; try (with_reducible rfl))
      try simp only [Act.put, List.setIfInBounds_toArray, List.set_cons_zero, List.set_cons_succ, List.getElem_toArray, List.getElem_cons_zero, List.getElem_cons_succ]
      refine wpAnyH_take (i := 1) (v := ?_) rfl (by kernel_rfl) (by kernel_rfl) (by kernel_rfl) (fun _ _ _ h => h) (Or.inl ⟨by rfl, ?_⟩) (by assumption) ?_
      rotate_left
      · (intro w hSw; (try dsimp only at hSw); go_simp; try (with_reducible rfl))
      try simp only [Act.put, List.setIfInBounds_toArray, List.set_cons_zero, List.set_cons_succ, List.getElem_toArray, List.getElem_cons_zero, List.getElem_cons_succ]
      obtain ⟨r0, r1, r2, r3, r4, s0, s1⟩ := HF3.out.1.res
      have y0 := (HF3.out.1.soft 0).2.1
      have y1 := (HF3.out.1.soft 1).2.1
      have y2 := (HF3.out.1.soft 2).2.1
      have y3 := (HF3.out.1.soft 3).2.1
      have y4 := (HF3.out.1.soft 4).2.1
      have z0 := (HF3.out.1.soft 0).2.2
      have z1 := (HF3.out.1.soft 1).2.2
      refine wpAnyH_ready (rs := [2]) (by kernel_rfl) (by simp) ?_
      refine AllReadyH.cons rfl (fun K hK => ?_) AllReadyH.nil
      go_simp
      obtain ⟨x1, hx1⟩ : ∃ y, Hid ((((((W3.setCell ⟨B + 1 + 1, 0, none⟩ (.slice none 0 0)).setCell ⟨B + 1 + 1, 1, none⟩ (.int .i64 0)).setCell ⟨B + 1 + 1, 2, none⟩ (.int .i64 0)).setCell ⟨B + 1 + 1, 3, none⟩ (.int .i64 0)).setCell ⟨B + 1 + 1, 4, none⟩ (.slice none 0 0)).drew = y) := ⟨_, show _ = _ from rfl⟩
      obtain ⟨H1⟩ : Nonempty (Hid (x1.heap[B + 2]? = some (.cells #[.slice none 0 0, .int .i64 0, .int .i64 0, .int .i64 0, .slice none 0 0] 27 (0, 0)) ∧ Below B w x1 ∧ x1.heap[FB0]? = W3.heap[FB0]? ∧ x1.heap[B + 3]? = W3.heap[B + 3]?)) := ⟨by
        rw [← show (((((W3.setCell ⟨B + 1 + 1, 0, none⟩ (.slice none 0 0)).setCell ⟨B + 1 + 1, 1, none⟩ (.int .i64 0)).setCell ⟨B + 1 + 1, 2, none⟩ (.int .i64 0)).setCell ⟨B + 1 + 1, 3, none⟩ (.int .i64 0)).setCell ⟨B + 1 + 1, 4, none⟩ (.slice none 0 0)).drew = x1 from hx1.out]
        have hb9 := (setFive (R := B + 1 + 1) (Below.refl (B + 1 + 1) W3) (Nat.le_refl _) (.slice none 0 0) (.int .i64 0) (.int .i64 0) (.int .i64 0) (.slice none 0 0)).drew
        have hlt := HF3.out.2.2
        exact ⟨set5_at (R := B + 1 + 1) HF3.out.1.2.2.1 _ _ _ _ _, HF3.out.1.2.2.2.2.trans (hb9.mono (by omega)), (five_other W3 (B + 1 + 1) FB0 (by omega) _ _ _ _ _ _ HF3.out.2.1).trans HF3.out.2.1.symm, (five_other W3 (B + 1 + 1) (B + 3) (by omega) _ _ _ _ _ _ HF3.out.1.2.2.2.1).trans HF3.out.1.2.2.2.1.symm⟩⟩
      rw [show (((((W3.setCell ⟨B + 1 + 1, 0, none⟩ (.slice none 0 0)).setCell ⟨B + 1 + 1, 1, none⟩ (.int .i64 0)).setCell ⟨B + 1 + 1, 2, none⟩ (.int .i64 0)).setCell ⟨B + 1 + 1, 3, none⟩ (.int .i64 0)).setCell ⟨B + 1 + 1, 4, none⟩ (.slice none 0 0)).drew = x1 from hx1.out]
      clear hx1 r0 r1 r2 r3 r4 s0 s1 y0 y1 y2 y3 y4 z0 z1
      refine hK.out _ _ ?_ (fun hHeld => ?_)
      · have hf := H1.out.2.2.1.trans HF3.out.2.1
        exact ⟨by simp [World.cell?, hf], by simp [World.cell?, hf]⟩
      clear hK K
      try simp only [Act.put, List.setIfInBounds_toArray, List.set_cons_zero, List.set_cons_succ, List.getElem_toArray, List.getElem_cons_zero, List.getElem_cons_succ]
      refine wpAnyH_take (i := 3) (v := ?_) rfl (by kernel_rfl) (by kernel_rfl) (by kernel_rfl) (fun _ _ _ h => h) (Or.inl ⟨by rfl, ?_⟩) (by assumption) ?_
      rotate_left
      · (intro w hSw; (try dsimp only at hSw); go_simp; try (with_reducible rfl))
      try simp only [Act.put, List.setIfInBounds_toArray, List.set_cons_zero, List.set_cons_succ, List.getElem_toArray, List.getElem_cons_zero, List.getElem_cons_succ]
      have hq := H1.out.2.2.2.trans HF3.out.1.2.2.2.1
      have s0 : x1.cell? ⟨B + 1 + 1 + 1, 0, none⟩ = some (.int .i64 0) := by simp [World.cell?, hq]
      have s1 : x1.cell? ⟨B + 1 + 1 + 1, 1, none⟩ = some (.int .i64 0) := by simp [World.cell?, hq]
      have z0 : x1.frozen? ⟨B + 1 + 1 + 1, 0, none⟩ = false := by simp [World.frozen?, hq]
      have z1 : x1.frozen? ⟨B + 1 + 1 + 1, 1, none⟩ = false := by simp [World.frozen?, hq]
      clear hq
      refine wpAnyH_ready (rs := [4]) (by kernel_rfl) (by simp) ?_
      refine AllReadyH.cons rfl (fun K hK => ?_) AllReadyH.nil
      go_simp
      obtain ⟨x9, hx9⟩ : ∃ y, Hid ((x1.setCell ⟨B + 1 + 1 + 1, 0, none⟩ (.int .i64 g2)).setCell ⟨B + 1 + 1 + 1, 1, none⟩ (.int .i64 e2) = y) := ⟨_, show _ = _ from rfl⟩
      obtain ⟨H9⟩ : Nonempty (Hid (x9.heap[B + 2]? = some (.cells #[.slice none 0 0, .int .i64 0, .int .i64 0, .int .i64 0, .slice none 0 0] 27 (0, 0)) ∧ x9.heap[B + 3]? = some (.cells #[.int .i64 g2, .int .i64 e2] 36 (0, 0)) ∧ Below B w x9 ∧ x9.heap[FB0]? = x1.heap[FB0]?)) := ⟨by
        rw [← show (x1.setCell ⟨B + 1 + 1 + 1, 0, none⟩ (.int .i64 g2)).setCell ⟨B + 1 + 1 + 1, 1, none⟩ (.int .i64 e2) = x9 from hx9.out]
        have h1 := heap_setCell_same _ (B + 1 + 1 + 1) 1 _ _ (.int .i64 e2) (heap_setCell_same _ (B + 1 + 1 + 1) 0 _ _ (.int .i64 g2) (H1.out.2.2.2.trans HF3.out.1.2.2.2.1))
        refine ⟨by rw [Below.heap_setCell _ _ _ _ (by simp), Below.heap_setCell _ _ _ _ (by simp)]; exact H1.out.1, by simpa using h1, ((H1.out.2.1).setCell (by simp; omega) _).setCell (by simp; omega) _, by have := HF3.out.2.2; rw [Below.heap_setCell _ _ _ _ (by simp; omega), Below.heap_setCell _ _ _ _ (by simp; omega)]⟩⟩
      rw [show (x1.setCell ⟨B + 1 + 1 + 1, 0, none⟩ (.int .i64 g2)).setCell ⟨B + 1 + 1 + 1, 1, none⟩ (.int .i64 e2) = x9 from hx9.out]
      clear hx9 s0 s1 z0 z1
      refine hK.out _ _ ?_ (fun hHeld => ?_)
      · have hf : x9.heap[FB0]? = _ := H9.out.2.2.2.trans (H1.out.2.2.1.trans HF3.out.2.1)
        exact ⟨by simp [World.cell?, hf], by simp [World.cell?, hf]⟩
      clear hK K
      try simp only [Act.put, List.setIfInBounds_toArray, List.set_cons_zero, List.set_cons_succ, List.getElem_toArray, List.getElem_cons_zero, List.getElem_cons_succ]
      refine wpAnyH_done (by kernel_rfl) ?_ _
      refine NoPanic.normal ?_
      clear hHeld
      have hq := H9.out.1
      have hq' := H9.out.2.1
      have r0 : x9.cell? ⟨B + 1 + 1, 0, none⟩ = some (.slice none 0 0) := by simp [World.cell?, hq]
      have r1 : x9.cell? ⟨B + 1 + 1, 1, none⟩ = some (.int .i64 0) := by simp [World.cell?, hq]
      have r2 : x9.cell? ⟨B + 1 + 1, 2, none⟩ = some (.int .i64 0) := by simp [World.cell?, hq]
      have r3 : x9.cell? ⟨B + 1 + 1, 3, none⟩ = some (.int .i64 0) := by simp [World.cell?, hq]
      have r4 : x9.cell? ⟨B + 1 + 1, 4, none⟩ = some (.slice none 0 0) := by simp [World.cell?, hq]
      have s0 : x9.cell? ⟨B + 1 + 1 + 1, 0, none⟩ = some (.int .i64 g2) := by simp [World.cell?, hq']
      have s1 : x9.cell? ⟨B + 1 + 1 + 1, 1, none⟩ = some (.int .i64 e2) := by simp [World.cell?, hq']
      clear hq hq'
      go_wp2_with fail
      refine bodyPost_ret (v := .tuple #[.agg #[.slice none 0 0, .int .i64 0, .int .i64 0, .int .i64 0, .slice none 0 0], .bool false, .agg #[.int .i64 g2, .int .i64 e2]]) (by simp [results, Tryz.results14, go_sem, r0, r1, r2, r3, r4, s0, s1]) rfl ⟨⟨_, rfl, attrK_none _⟩, ?_⟩
      rw [show w.heap.size = B from hB.out]
      exact H9.out.2.2.1
end Go.Proofs.YtnifhaopjhgmnaaGreatDoor
