/-
  Package rule's Apply: what it returns where nothing is made.
-/
import Derived.Test.YtnifhaopjhgmnaaDoorRuleMade
import Derived.Deep.Cut
import Derived.Deep.CutRange
namespace Go.Proofs.YtnifhaopjhgmnaaDoor
open Go.RowKit

/-- the place of the first rule that fits, or their number. -/
def fitK (L : List Rl) (ta tn : Int) (A : At) : Nat := firstR (fun r => fitsB r ta tn A) L
/-- does a rule fit, that does not deny? -/
def goB (L : List Rl) (ta tn : Int) (A : At) : Bool := decide (fitK L ta tn A < L.length) && !(ruleN L (fitK L ta tn A)).deny
/-- what Apply answers: an error's number and place, whether it is told on, what is told. -/
def appC (L : List Rl) (x ta tn : Int) (A : At) : Nat × Int :=
  if 0 < (allC L ta tn A).1 then allC L ta tn A else if goB L ta tn A then (madeC (ruleN L (fitK L ta tn A)) x A, -1) else (0, -1)
def appB (L : List Rl) (x ta tn : Int) (A : At) : Bool :=
  if 0 < (allC L ta tn A).1 then false else if L.length = 0 then true else if goB L ta tn A then decide (madeC (ruleN L (fitK L ta tn A)) x A = 0) else false
def appA (L : List Rl) (x ta tn : Int) (A : At) : At :=
  if 0 < (allC L ta tn A).1 then noneA else if L.length = 0 then A else if goB L ta tn A then (if madeC (ruleN L (fitK L ta tn A)) x A = 0 then madeA (ruleN L (fitK L ta tn A)) x A else noneA) else noneA
/-- three boxes: a prefix's, an attribute's, the answer's. -/
def PB (w wr : World) (B : Nat) (ta tn : Int) (va vr : Array Value) : Prop :=
  wr.heap[B]? = some (.cells #[.int .i64 ta, .int .i64 tn] 24 (0, 0)) ∧ wr.heap[B + 1]? = some (.cells va 27 (0, 0)) ∧ wr.heap[B + 2]? = some (.cells vr 27 (0, 0)) ∧ Below B w wr
theorem PB.size {w wr : World} {B : Nat} {ta tn : Int} {va vr : Array Value} (h : PB w wr B ta tn va vr) : B + 2 < wr.heap.size := (Array.getElem?_eq_some_iff.1 h.2.2.1).1
theorem PB.on {w wr w' : World} {B : Nat} {ta tn : Int} {va vr : Array Value} (h : PB w wr B ta tn va vr) (hb : Below wr.heap.size wr w') : PB w w' B ta tn va vr := by
  have l := h.size
  obtain ⟨a, b, c, d⟩ := h
  exact ⟨by rw [hb.block _ (by omega)]; exact a, by rw [hb.block _ (by omega)]; exact b, by rw [hb.block _ l]; exact c, d.trans (hb.mono (by omega))⟩
theorem PB.setO {w wr : World} {B O : Nat} {ta tn : Int} {va vr : Array Value} (h : PB w wr B ta tn va vr) (hO : B + 2 < O) (k : Nat) (u : Value) : PB w (wr.setCell ⟨O, k, none⟩ u) B ta tn va vr :=
  ⟨by rw [Below.heap_setCell _ _ _ _ (by simp; omega)]; exact h.1, by rw [Below.heap_setCell _ _ _ _ (by simp; omega)]; exact h.2.1, by rw [Below.heap_setCell _ _ _ _ (by simp; omega)]; exact h.2.2.1, h.2.2.2.setCell (by simp; omega) _⟩
theorem pb_start (w : World) (ta tn : Int) (va vr : Array Value) : PB w (((w.alloc (.cells #[.int .i64 ta, .int .i64 tn] 24)).alloc (.cells va 27)).alloc (.cells vr 27)) w.heap.size ta tn va vr := by
  obtain ⟨w0, hw0⟩ : ∃ w0, w.alloc (.cells #[.int .i64 ta, .int .i64 tn] 24) = w0 := ⟨_, rfl⟩
  have h0 := Go.heap_alloc_new w (.cells #[.int .i64 ta, .int .i64 tn] 24)
  have b0 := below_alloc w (.cells #[.int .i64 ta, .int .i64 tn] 24)
  have hs : w0.heap.size = w.heap.size + 1 := by rw [← hw0]; simp
  rw [hw0] at h0 b0 ⊢
  obtain ⟨w1, hw1⟩ : ∃ w1, w0.alloc (.cells va 27) = w1 := ⟨_, rfl⟩
  have h1 := Go.heap_alloc_new w0 (.cells va 27)
  have b1 := below_alloc w0 (.cells va 27)
  have hs1 : w1.heap.size = w.heap.size + 2 := by rw [← hw1]; simp; omega
  rw [hw1, hs] at h1
  rw [hw1] at b1 ⊢
  have h2 := Go.heap_alloc_new w1 (.cells vr 27)
  have b2 := below_alloc w1 (.cells vr 27)
  rw [hs1] at h2
  exact ⟨by rw [b2.block _ (by omega), b1.block _ (by omega)]; exact h0, by rw [b2.block _ (by omega)]; exact h1, h2, (b0.trans (b1.mono (by omega))).trans (b2.mono (by omega))⟩
theorem PB.pre {w wr : World} {B : Nat} {ta tn : Int} {va vr : Array Value} (h : PB w wr B ta tn va vr) : wr.cell? ⟨B, 0, none⟩ = some (.int .i64 ta) ∧ wr.cell? ⟨B, 1, none⟩ = some (.int .i64 tn) := by
  constructor <;> simp [World.cell?, h.1]
theorem PB.arg {w wr : World} {B : Nat} {ta tn : Int} {a b c d e : Value} {vr : Array Value} (h : PB w wr B ta tn #[a, b, c, d, e] vr) : wr.cell? ⟨B + 1, 0, none⟩ = some a ∧ wr.cell? ⟨B + 1, 1, none⟩ = some b ∧ wr.cell? ⟨B + 1, 2, none⟩ = some c ∧ wr.cell? ⟨B + 1, 3, none⟩ = some d ∧ wr.cell? ⟨B + 1, 4, none⟩ = some e := by
  refine ⟨?_, ?_, ?_, ?_, ?_⟩ <;> simp [World.cell?, h.2.1]
theorem PB.res {w wr : World} {B : Nat} {ta tn : Int} {a b c d e : Value} {va : Array Value} (h : PB w wr B ta tn va #[a, b, c, d, e]) : wr.cell? ⟨B + 2, 0, none⟩ = some a ∧ wr.cell? ⟨B + 2, 1, none⟩ = some b ∧ wr.cell? ⟨B + 2, 2, none⟩ = some c ∧ wr.cell? ⟨B + 2, 3, none⟩ = some d ∧ wr.cell? ⟨B + 2, 4, none⟩ = some e := by
  refine ⟨?_, ?_, ?_, ?_, ?_⟩ <;> simp [World.cell?, h.2.2.1]
theorem PB.soft {w wr : World} {B : Nat} {ta tn : Int} {va vr : Array Value} (h : PB w wr B ta tn va vr) (k : Nat) : wr.frozen? ⟨B + 2, k, none⟩ = false := by
  simp [World.frozen?, h.2.2.1]
theorem heap_drew (w : World) : w.drew.heap = w.heap := rfl
theorem set5_at {wr : World} {R : Nat} {x0 x1 x2 x3 x4 : Value} (h : wr.heap[R]? = some (.cells #[x0, x1, x2, x3, x4] 27 (0, 0))) (a b c d e : Value) : ((((((wr.setCell ⟨R, 0, none⟩ a).setCell ⟨R, 1, none⟩ b).setCell ⟨R, 2, none⟩ c).setCell ⟨R, 3, none⟩ d).setCell ⟨R, 4, none⟩ e).drew).heap[R]? = some (.cells #[a, b, c, d, e] 27 (0, 0)) := by
  rw [heap_drew]
  have h1 := heap_setCell_same _ R 0 _ _ a h
  have h2 := heap_setCell_same _ R 1 _ _ b h1
  have h3 := heap_setCell_same _ R 2 _ _ c h2
  have h4 := heap_setCell_same _ R 3 _ _ d h3
  have h5 := heap_setCell_same _ R 4 _ _ e h4
  simpa using h5
theorem five_other (w : World) (R O : Nat) (hne : O ≠ R) (a b c d e : Value) (o : Obj) (h : w.heap[O]? = some o) : ((((((w.setCell ⟨R, 0, none⟩ a).setCell ⟨R, 1, none⟩ b).setCell ⟨R, 2, none⟩ c).setCell ⟨R, 3, none⟩ d).setCell ⟨R, 4, none⟩ e).drew).heap[O]? = some o := by
  rw [heap_drew, Below.heap_setCell _ _ _ _ (by simpa using hne), Below.heap_setCell _ _ _ _ (by simpa using hne), Below.heap_setCell _ _ _ _ (by simpa using hne), Below.heap_setCell _ _ _ _ (by simpa using hne), Below.heap_setCell _ _ _ _ (by simpa using hne)]
  exact h
theorem AttrG.on {w w' : World} {v : Value} {A : At} {N : Nat} (h : AttrG w v A N) (hb : Below w.heap.size w w') : AttrG w' v A N := by
  obtain ⟨p, cp, q, cq, e', i1, i2, k1, k2, n1, n2⟩ := h
  exact ⟨p, cp, q, cq, e', i1.below hb, i2.below hb, k1, k2, n1, n2⟩
theorem AttrG.drew5 {w : World} {v : Value} {A : At} {N : Nat} (h : AttrG w v A N) {B : Nat} (hB : B < N) (a b c d e : Value) : AttrG ((((((w.setCell ⟨B, 0, none⟩ a).setCell ⟨B, 1, none⟩ b).setCell ⟨B, 2, none⟩ c).setCell ⟨B, 3, none⟩ d).setCell ⟨B, 4, none⟩ e).drew) v A N :=
  (h.set5 hB a b c d e).on (Below.refl _ _).drew

set_option linter.unusedSimpArgs false in
set_option linter.unusedVariables false in
set_option maxRecDepth 100000 in
set_option maxHeartbeats 8000000 in
theorem apply_bad (p : Option Addr) (L : List Rl) (cp : Nat) (x ta tn : Int) (v : Value) (A : At) (E : Nat → Addr) (m : Int) (w : World) (hE : RuleEnv w E m) (h : Rules w p L) (ha : AttrK w v A) (hl : L.length ≤ 1000000) (h1 : A.path.length ≤ 1000) (h2 : A.tags.length ≤ 1000)
    (hc : 0 < (allC L ta tn A).1) :
    Calls Tryd.prog 6 #[.slice p L.length cp, .int .i64 x, .agg #[.int .i64 ta, .int .i64 tn], v] w fun r w' => (∃ v' u, r = .returned (.tuple #[v', .bool false, u]) ∧ AttrG w' v' noneA w.heap.size ∧ IsErr w' E u (allC L ta tn A).1 (allC L ta tn A).2) ∧ Below w.heap.size w w' := by
  have ha0 := ha
  obtain ⟨p0, cp0, q0, cq0, rfl, i1, i2, k1, k2⟩ := ha
  obtain ⟨HC⟩ : Nonempty (Hid (∀ w', Below w.heap.size w w' → Calls _ _ _ _ _)) := ⟨fun w' hb => checkAll_any p L cp ta tn (.agg #[.slice p0 A.path.length cp0, .int .i64 A.pref, .int .i64 A.med, .int .i64 A.org, .slice q0 A.tags.length cq0]) A E m w' (hE.below hb) (h.below hb) (ha0.below hb).attr hl (by omega) (by omega)⟩
  obtain ⟨c, hcc⟩ : ∃ c, Hid ((allC L ta tn A).1 = c) := ⟨_, show _ = _ from rfl⟩
  obtain ⟨d, hdd⟩ : ∃ c, Hid ((allC L ta tn A).2 = c) := ⟨_, show _ = _ from rfl⟩
  simp only [show (allC L ta tn A).1 = c from hcc.out, show (allC L ta tn A).2 = d from hdd.out] at HC hc ⊢
  obtain ⟨HP⟩ : Nonempty (Hid (PB w _ w.heap.size ta tn #[.slice p0 A.path.length cp0, .int .i64 A.pref, .int .i64 A.med, .int .i64 A.org, .slice q0 A.tags.length cq0] #[.slice none 0 0, .int .i64 0, .int .i64 0, .int .i64 0, .slice none 0 0])) := ⟨pb_start w ta tn _ _⟩
  obtain ⟨W0, hW0⟩ : ∃ W0, Hid (((w.alloc (.cells #[.int .i64 ta, .int .i64 tn] 24)).alloc (.cells #[.slice p0 A.path.length cp0, .int .i64 A.pref, .int .i64 A.med, .int .i64 A.org, .slice q0 A.tags.length cq0] 27)).alloc (.cells #[.slice none 0 0, .int .i64 0, .int .i64 0, .int .i64 0, .slice none 0 0] 27) = W0) := ⟨_, show _ = _ from rfl⟩
  rw [show ((w.alloc (.cells #[.int .i64 ta, .int .i64 tn] 24)).alloc (.cells #[.slice p0 A.path.length cp0, .int .i64 A.pref, .int .i64 A.med, .int .i64 A.org, .slice q0 A.tags.length cq0] 27)).alloc (.cells #[.slice none 0 0, .int .i64 0, .int .i64 0, .int .i64 0, .slice none 0 0] 27) = W0 from hW0.out] at HP
  obtain ⟨B, hB⟩ : ∃ B, Hid (w.heap.size = B) := ⟨_, show _ = _ from rfl⟩
  clear hE h h1 h2 i1 i2 k1 k2 ha0 hcc hdd
  go_enter Tryd.func6, Tryd.ntmps6
  go_wp2_with fail
  rw [show ((w.alloc (.cells #[.int .i64 ta, .int .i64 tn] 24)).alloc (.cells #[.slice p0 A.path.length cp0, .int .i64 A.pref, .int .i64 A.med, .int .i64 A.org, .slice q0 A.tags.length cq0] 27)).alloc (.cells #[.slice none 0 0, .int .i64 0, .int .i64 0, .int .i64 0, .slice none 0 0] 27) = W0 from hW0.out]
  clear hW0
  rw [show w.heap.size = B from hB.out] at HP ⊢
  refine (HC.out W0 (by first | exact HP.out.2.2.2 | (rw [show w.heap.size = B from hB.out]; exact HP.out.2.2.2))).mono ?_
  rintro e w1 ⟨⟨u1, rfl, hu1⟩, hb1⟩
  obtain ⟨HP1⟩ : Nonempty (Hid (PB w w1 B ta tn #[.slice p0 A.path.length cp0, .int .i64 A.pref, .int .i64 A.med, .int .i64 A.org, .slice q0 A.tags.length cq0] #[.slice none 0 0, .int .i64 0, .int .i64 0, .int .i64 0, .slice none 0 0])) := ⟨HP.out.on hb1⟩
  clear HP hb1 HC
  obtain ⟨HU⟩ : Nonempty (Hid (IsErr w1 E u1 c d)) := ⟨hu1⟩
  obtain ⟨t, a, rfl⟩ : ∃ t a, u1 = .iface t (.pointer (some a)) := by
    rcases isErr_cases hu1 with ⟨h, -⟩ | ⟨-, h⟩
    · omega
    · exact h
  clear hu1 hc
  have hbx : ∀ b o vv, w1.cell? ⟨b, o, none⟩ = some vv → b ≠ B + 2 → (((((w1.setCell ⟨B + 2, 0, none⟩ (.slice none 0 0)).setCell ⟨B + 2, 1, none⟩ (.int .i64 0)).setCell ⟨B + 2, 2, none⟩ (.int .i64 0)).setCell ⟨B + 2, 3, none⟩ (.int .i64 0)).setCell ⟨B + 2, 4, none⟩ (.slice none 0 0)).cell? ⟨b, o, none⟩ = some vv := fun b o vv h hn => by
    rw [World.cell?_setCell_other _ _ _ _ (by intro he; simp at he <;> omega), World.cell?_setCell_other _ _ _ _ (by intro he; simp at he <;> omega), World.cell?_setCell_other _ _ _ _ (by intro he; simp at he <;> omega), World.cell?_setCell_other _ _ _ _ (by intro he; simp at he <;> omega), World.cell?_setCell_other _ _ _ _ (by intro he; simp at he <;> omega)]
    exact h
  obtain ⟨r0, r1, r2, r3, r4⟩ := HP1.out.res
  have y0 := HP1.out.soft 0
  have y1 := HP1.out.soft 1
  have y2 := HP1.out.soft 2
  have y3 := HP1.out.soft 3
  have y4 := HP1.out.soft 4
  go_wp2_with fail
  refine bodyPost_ret (v := .tuple #[.agg #[.slice none 0 0, .int .i64 0, .int .i64 0, .int .i64 0, .slice none 0 0], .bool false, .iface t (.pointer (some a))]) (by simp [results, Tryd.results6, go_sem, r0, r1, r2, r3, r4]) rfl ⟨⟨_, _, rfl, attrG_none _ _, ?_⟩, ?_⟩
  · rcases HU.out with ⟨h1, h2⟩ | ⟨h1, h2, b, h3, h4, h5⟩
    · exact .inl ⟨h1, h2⟩
    · have hn : b ≠ B + 2 := fun e => by
        subst e
        rw [HP1.out.res.1] at h4
        cases h4
      exact .inr ⟨h1, h2, b, h3, hbx _ _ _ h4 hn, hbx _ _ _ h5 hn⟩
  rw [show w.heap.size = B from hB.out]
  exact setFive (R := B + 2) HP1.out.2.2.2 (by omega) _ _ _ _ _

set_option linter.unusedSimpArgs false in
set_option linter.unusedVariables false in
set_option maxRecDepth 100000 in
set_option maxHeartbeats 8000000 in
theorem apply_none (p : Option Addr) (L : List Rl) (cp : Nat) (x ta tn : Int) (v : Value) (A : At) (E : Nat → Addr) (m : Int) (w : World) (hE : RuleEnv w E m) (h : Rules w p L) (ha : AttrK w v A) (hl : L.length ≤ 1000000) (h1 : A.path.length ≤ 1000) (h2 : A.tags.length ≤ 1000)
    (hc : ¬ 0 < (allC L ta tn A).1) (hn : L.length = 0) :
    Calls Tryd.prog 6 #[.slice p L.length cp, .int .i64 x, .agg #[.int .i64 ta, .int .i64 tn], v] w fun r w' => (∃ v' u, r = .returned (.tuple #[v', .bool true, u]) ∧ AttrG w' v' A w.heap.size ∧ IsErr w' E u 0 (-1)) ∧ Below w.heap.size w w' := by
  have ha0 := ha
  obtain ⟨p0, cp0, q0, cq0, rfl, i1, i2, k1, k2⟩ := ha
  obtain ⟨HC⟩ : Nonempty (Hid (∀ w', Below w.heap.size w w' → Calls _ _ _ _ _)) := ⟨fun w' hb => checkAll_any p L cp ta tn (.agg #[.slice p0 A.path.length cp0, .int .i64 A.pref, .int .i64 A.med, .int .i64 A.org, .slice q0 A.tags.length cq0]) A E m w' (hE.below hb) (h.below hb) (ha0.below hb).attr hl (by omega) (by omega)⟩
  have hc0 : (allC L ta tn A).1 = 0 := by omega
  simp only [hc0] at HC
  obtain ⟨HCO⟩ : Nonempty (Hid (∀ w', Below w.heap.size w w' → Calls _ _ _ _ _)) := ⟨fun w' hb => copy_any (.agg #[.slice p0 A.path.length cp0, .int .i64 A.pref, .int .i64 A.med, .int .i64 A.org, .slice q0 A.tags.length cq0]) A w' (ha0.below hb) (by omega) (by omega)⟩
  have hn' : ((L.length : Int) == 0) = true := by rw [beq_iff_eq]; omega
  obtain ⟨HP⟩ : Nonempty (Hid (PB w _ w.heap.size ta tn #[.slice p0 A.path.length cp0, .int .i64 A.pref, .int .i64 A.med, .int .i64 A.org, .slice q0 A.tags.length cq0] #[.slice none 0 0, .int .i64 0, .int .i64 0, .int .i64 0, .slice none 0 0])) := ⟨pb_start w ta tn _ _⟩
  obtain ⟨W0, hW0⟩ : ∃ W0, Hid (((w.alloc (.cells #[.int .i64 ta, .int .i64 tn] 24)).alloc (.cells #[.slice p0 A.path.length cp0, .int .i64 A.pref, .int .i64 A.med, .int .i64 A.org, .slice q0 A.tags.length cq0] 27)).alloc (.cells #[.slice none 0 0, .int .i64 0, .int .i64 0, .int .i64 0, .slice none 0 0] 27) = W0) := ⟨_, show _ = _ from rfl⟩
  rw [show ((w.alloc (.cells #[.int .i64 ta, .int .i64 tn] 24)).alloc (.cells #[.slice p0 A.path.length cp0, .int .i64 A.pref, .int .i64 A.med, .int .i64 A.org, .slice q0 A.tags.length cq0] 27)).alloc (.cells #[.slice none 0 0, .int .i64 0, .int .i64 0, .int .i64 0, .slice none 0 0] 27) = W0 from hW0.out] at HP
  obtain ⟨B, hB⟩ : ∃ B, Hid (w.heap.size = B) := ⟨_, show _ = _ from rfl⟩
  clear hE h h1 h2 i1 i2 k1 k2 ha0 hc hc0 hn hl
  go_enter Tryd.func6, Tryd.ntmps6
  go_wp2_with fail
  rw [show ((w.alloc (.cells #[.int .i64 ta, .int .i64 tn] 24)).alloc (.cells #[.slice p0 A.path.length cp0, .int .i64 A.pref, .int .i64 A.med, .int .i64 A.org, .slice q0 A.tags.length cq0] 27)).alloc (.cells #[.slice none 0 0, .int .i64 0, .int .i64 0, .int .i64 0, .slice none 0 0] 27) = W0 from hW0.out]
  clear hW0
  rw [show w.heap.size = B from hB.out] at HP HCO ⊢
  refine (HC.out W0 (by first | exact HP.out.2.2.2 | (rw [show w.heap.size = B from hB.out]; exact HP.out.2.2.2))).mono ?_
  rintro e w1 ⟨⟨u1, rfl, hu1⟩, hb1⟩
  obtain ⟨HP1⟩ : Nonempty (Hid (PB w w1 B ta tn #[.slice p0 A.path.length cp0, .int .i64 A.pref, .int .i64 A.med, .int .i64 A.org, .slice q0 A.tags.length cq0] #[.slice none 0 0, .int .i64 0, .int .i64 0, .int .i64 0, .slice none 0 0])) := ⟨HP.out.on hb1⟩
  clear HP hb1 HC
  obtain ⟨-, rfl⟩ : _ ∧ u1 = .nilIface := by
    rcases isErr_cases hu1 with h | ⟨h, -⟩
    · exact h
    · omega
  clear hu1
  obtain ⟨a0, a1, a2, a3, a4⟩ := HP1.out.arg
  go_wp2_with fail
  refine (HCO.out w1 HP1.out.2.2.2).mono ?_
  rintro e w2 ⟨⟨p1, cp1, q1, cq1, rfl, hcp⟩, hb2⟩
  obtain ⟨HP2⟩ : Nonempty (Hid (PB w w2 B ta tn #[.slice p0 A.path.length cp0, .int .i64 A.pref, .int .i64 A.med, .int .i64 A.org, .slice q0 A.tags.length cq0] #[.slice none 0 0, .int .i64 0, .int .i64 0, .int .i64 0, .slice none 0 0])) := ⟨HP1.out.on hb2⟩
  obtain ⟨HG⟩ : Nonempty (Hid (AttrG w2 (.agg #[.slice p1 A.path.length cp1, .int .i64 A.pref, .int .i64 A.med, .int .i64 A.org, .slice q1 A.tags.length cq1]) A w1.heap.size ∧ B + 2 < w1.heap.size)) := ⟨⟨cp_g hcp, HP1.out.size⟩⟩
  clear hb2 hcp HCO HP1 a0 a1 a2 a3 a4
  obtain ⟨r0, r1, r2, r3, r4⟩ := HP2.out.res
  have y0 := HP2.out.soft 0
  have y1 := HP2.out.soft 1
  have y2 := HP2.out.soft 2
  have y3 := HP2.out.soft 3
  have y4 := HP2.out.soft 4
  go_wp2_with fail
  refine bodyPost_ret (v := .tuple #[.agg #[.slice p1 A.path.length cp1, .int .i64 A.pref, .int .i64 A.med, .int .i64 A.org, .slice q1 A.tags.length cq1], .bool true, .nilIface]) (by simp [results, Tryd.results6, go_sem, r0, r1, r2, r3, r4]) rfl ⟨⟨_, _, rfl, (HG.out.1.set5 (B := B + 2) HG.out.2 _ _ _ _ _).mono (by have := HG.out.2; have := hB.out; omega), .inl ⟨rfl, rfl⟩⟩, ?_⟩
  rw [show w.heap.size = B from hB.out]
  exact setFive (R := B + 2) HP2.out.2.2.2 (by omega) _ _ _ _ _

set_option linter.unusedSimpArgs false in
set_option linter.unusedVariables false in
set_option maxRecDepth 100000 in
set_option maxHeartbeats 8000000 in
theorem apply_miss (p : Option Addr) (L : List Rl) (cp : Nat) (x ta tn : Int) (v : Value) (A : At) (E : Nat → Addr) (m : Int) (w : World) (hE : RuleEnv w E m) (h : Rules w p L) (ha : AttrK w v A) (hl : L.length ≤ 1000000) (h1 : A.path.length ≤ 1000) (h2 : A.tags.length ≤ 1000)
    (hc : ¬ 0 < (allC L ta tn A).1) (hn : ¬ L.length = 0) (hk : ¬ fitK L ta tn A < L.length) :
    Calls Tryd.prog 6 #[.slice p L.length cp, .int .i64 x, .agg #[.int .i64 ta, .int .i64 tn], v] w fun r w' => (∃ v' u, r = .returned (.tuple #[v', .bool false, u]) ∧ AttrG w' v' noneA w.heap.size ∧ IsErr w' E u 0 (-1)) ∧ Below w.heap.size w w' := by
  have ha0 := ha
  obtain ⟨p0, cp0, q0, cq0, rfl, i1, i2, k1, k2⟩ := ha
  obtain ⟨HC⟩ : Nonempty (Hid (∀ w', Below w.heap.size w w' → Calls _ _ _ _ _)) := ⟨fun w' hb => checkAll_any p L cp ta tn (.agg #[.slice p0 A.path.length cp0, .int .i64 A.pref, .int .i64 A.med, .int .i64 A.org, .slice q0 A.tags.length cq0]) A E m w' (hE.below hb) (h.below hb) (ha0.below hb).attr hl (by omega) (by omega)⟩
  have hc0 : (allC L ta tn A).1 = 0 := by omega
  simp only [hc0] at HC
  obtain ⟨HIX⟩ : Nonempty (Hid (∀ w', PB w w' w.heap.size ta tn #[.slice p0 A.path.length cp0, .int .i64 A.pref, .int .i64 A.med, .int .i64 A.org, .slice q0 A.tags.length cq0] #[.slice none 0 0, .int .i64 0, .int .i64 0, .int .i64 0, .slice none 0 0] → Calls Tryd.prog 14 #[.slice p L.length cp, .func (.func 15) #[] #[.pointer (some ⟨w.heap.size, 0, none⟩), .pointer (some ⟨w.heap.size + 1, 0, none⟩)]] w' fun e w'' => e = .returned (.int .i64 (idxR (fun r => fitsB r ta tn A) L)) ∧ Below w'.heap.size w' w'')) := ⟨fun w' hp => by
    refine index_any p L cp _ _ (fun r => fitsB r ta tn A) w' (h.below hp.2.2.2) ⟨enters_apply, fun r W hb => ?_⟩ hl
    have hbW := hp.2.2.2.trans (hb.mono (by have := hp.size; omega))
    have hpW := hp.on hb
    exact asked_fits r ta tn (.agg #[.slice p0 A.path.length cp0, .int .i64 A.pref, .int .i64 A.med, .int .i64 A.org, .slice q0 A.tags.length cq0]) A p0 cp0 q0 cq0 w.heap.size (w.heap.size + 1) E m W (hE.below hbW) (i1.below hbW) (i2.below hbW) (by omega) (by omega) hpW.1 hpW.2.1⟩
  obtain ⟨K, hK⟩ : ∃ k, Hid (fitK L ta tn A = k) := ⟨_, show _ = _ from rfl⟩
  have hix : idxR (fun r => fitsB r ta tn A) L = if K < L.length then (K : Int) else -1 := by
    rw [← show fitK L ta tn A = K from hK.out]; rfl
  simp only [hix] at HIX
  rw [show fitK L ta tn A = K from hK.out] at hk
  simp only [if_neg hk] at HIX
  have hn' : ((L.length : Int) == 0) = false := by rw [beq_eq_false_iff_ne]; omega

  obtain ⟨HP⟩ : Nonempty (Hid (PB w _ w.heap.size ta tn #[.slice p0 A.path.length cp0, .int .i64 A.pref, .int .i64 A.med, .int .i64 A.org, .slice q0 A.tags.length cq0] #[.slice none 0 0, .int .i64 0, .int .i64 0, .int .i64 0, .slice none 0 0])) := ⟨pb_start w ta tn _ _⟩
  obtain ⟨W0, hW0⟩ : ∃ W0, Hid (((w.alloc (.cells #[.int .i64 ta, .int .i64 tn] 24)).alloc (.cells #[.slice p0 A.path.length cp0, .int .i64 A.pref, .int .i64 A.med, .int .i64 A.org, .slice q0 A.tags.length cq0] 27)).alloc (.cells #[.slice none 0 0, .int .i64 0, .int .i64 0, .int .i64 0, .slice none 0 0] 27) = W0) := ⟨_, show _ = _ from rfl⟩
  rw [show ((w.alloc (.cells #[.int .i64 ta, .int .i64 tn] 24)).alloc (.cells #[.slice p0 A.path.length cp0, .int .i64 A.pref, .int .i64 A.med, .int .i64 A.org, .slice q0 A.tags.length cq0] 27)).alloc (.cells #[.slice none 0 0, .int .i64 0, .int .i64 0, .int .i64 0, .slice none 0 0] 27) = W0 from hW0.out] at HP
  obtain ⟨B, hB⟩ : ∃ B, Hid (w.heap.size = B) := ⟨_, show _ = _ from rfl⟩
  clear hE h h1 h2 i1 i2 k1 k2 ha0 hc hc0 hn hix hK hk hl
  go_enter Tryd.func6, Tryd.ntmps6
  go_wp2_with fail
  rw [show ((w.alloc (.cells #[.int .i64 ta, .int .i64 tn] 24)).alloc (.cells #[.slice p0 A.path.length cp0, .int .i64 A.pref, .int .i64 A.med, .int .i64 A.org, .slice q0 A.tags.length cq0] 27)).alloc (.cells #[.slice none 0 0, .int .i64 0, .int .i64 0, .int .i64 0, .slice none 0 0] 27) = W0 from hW0.out]
  clear hW0
  rw [show w.heap.size = B from hB.out] at HP HIX ⊢
  refine (HC.out W0 (by first | exact HP.out.2.2.2 | (rw [show w.heap.size = B from hB.out]; exact HP.out.2.2.2))).mono ?_
  rintro e w1 ⟨⟨u1, rfl, hu1⟩, hb1⟩
  obtain ⟨HP1⟩ : Nonempty (Hid (PB w w1 B ta tn #[.slice p0 A.path.length cp0, .int .i64 A.pref, .int .i64 A.med, .int .i64 A.org, .slice q0 A.tags.length cq0] #[.slice none 0 0, .int .i64 0, .int .i64 0, .int .i64 0, .slice none 0 0])) := ⟨HP.out.on hb1⟩
  clear HP hb1 HC
  obtain ⟨-, rfl⟩ : _ ∧ u1 = .nilIface := by
    rcases isErr_cases hu1 with h | ⟨h, -⟩
    · exact h
    · omega
  clear hu1
  go_wp2_with fail
  refine (HIX.out w1 HP1.out).mono ?_
  rintro e w2 ⟨rfl, hb2⟩
  obtain ⟨HP2⟩ : Nonempty (Hid (PB w w2 B ta tn #[.slice p0 A.path.length cp0, .int .i64 A.pref, .int .i64 A.med, .int .i64 A.org, .slice q0 A.tags.length cq0] #[.slice none 0 0, .int .i64 0, .int .i64 0, .int .i64 0, .slice none 0 0])) := ⟨HP1.out.on hb2⟩
  clear hb2 HIX HP1
  obtain ⟨r0, r1, r2, r3, r4⟩ := HP2.out.res
  have y0 := HP2.out.soft 0
  have y1 := HP2.out.soft 1
  have y2 := HP2.out.soft 2
  have y3 := HP2.out.soft 3
  have y4 := HP2.out.soft 4
  go_wp2_with fail
  refine bodyPost_ret (v := .tuple #[.agg #[.slice none 0 0, .int .i64 0, .int .i64 0, .int .i64 0, .slice none 0 0], .bool false, .nilIface]) (by simp [results, Tryd.results6, go_sem, r0, r1, r2, r3, r4]) rfl ⟨⟨_, _, rfl, attrG_none _ _, .inl ⟨rfl, rfl⟩⟩, ?_⟩
  rw [show w.heap.size = B from hB.out]
  exact setFive (R := B + 2) HP2.out.2.2.2 (by omega) _ _ _ _ _

set_option linter.unusedSimpArgs false in
set_option linter.unusedVariables false in
set_option maxRecDepth 100000 in
set_option maxHeartbeats 8000000 in
theorem apply_deny (p : Option Addr) (L : List Rl) (cp : Nat) (x ta tn : Int) (v : Value) (A : At) (E : Nat → Addr) (m : Int) (w : World) (hE : RuleEnv w E m) (h : Rules w p L) (ha : AttrK w v A) (hl : L.length ≤ 1000000) (h1 : A.path.length ≤ 1000) (h2 : A.tags.length ≤ 1000)
    (hc : ¬ 0 < (allC L ta tn A).1) (hn : ¬ L.length = 0) (hk : fitK L ta tn A < L.length) (hd : (ruleN L (fitK L ta tn A)).deny = true) :
    Calls Tryd.prog 6 #[.slice p L.length cp, .int .i64 x, .agg #[.int .i64 ta, .int .i64 tn], v] w fun r w' => (∃ v' u, r = .returned (.tuple #[v', .bool false, u]) ∧ AttrG w' v' noneA w.heap.size ∧ IsErr w' E u 0 (-1)) ∧ Below w.heap.size w w' := by
  have ha0 := ha
  obtain ⟨p0, cp0, q0, cq0, rfl, i1, i2, k1, k2⟩ := ha
  obtain ⟨HC⟩ : Nonempty (Hid (∀ w', Below w.heap.size w w' → Calls _ _ _ _ _)) := ⟨fun w' hb => checkAll_any p L cp ta tn (.agg #[.slice p0 A.path.length cp0, .int .i64 A.pref, .int .i64 A.med, .int .i64 A.org, .slice q0 A.tags.length cq0]) A E m w' (hE.below hb) (h.below hb) (ha0.below hb).attr hl (by omega) (by omega)⟩
  have hc0 : (allC L ta tn A).1 = 0 := by omega
  simp only [hc0] at HC
  obtain ⟨HIX⟩ : Nonempty (Hid (∀ w', PB w w' w.heap.size ta tn #[.slice p0 A.path.length cp0, .int .i64 A.pref, .int .i64 A.med, .int .i64 A.org, .slice q0 A.tags.length cq0] #[.slice none 0 0, .int .i64 0, .int .i64 0, .int .i64 0, .slice none 0 0] → Calls Tryd.prog 14 #[.slice p L.length cp, .func (.func 15) #[] #[.pointer (some ⟨w.heap.size, 0, none⟩), .pointer (some ⟨w.heap.size + 1, 0, none⟩)]] w' fun e w'' => e = .returned (.int .i64 (idxR (fun r => fitsB r ta tn A) L)) ∧ Below w'.heap.size w' w'')) := ⟨fun w' hp => by
    refine index_any p L cp _ _ (fun r => fitsB r ta tn A) w' (h.below hp.2.2.2) ⟨enters_apply, fun r W hb => ?_⟩ hl
    have hbW := hp.2.2.2.trans (hb.mono (by have := hp.size; omega))
    have hpW := hp.on hb
    exact asked_fits r ta tn (.agg #[.slice p0 A.path.length cp0, .int .i64 A.pref, .int .i64 A.med, .int .i64 A.org, .slice q0 A.tags.length cq0]) A p0 cp0 q0 cq0 w.heap.size (w.heap.size + 1) E m W (hE.below hbW) (i1.below hbW) (i2.below hbW) (by omega) (by omega) hpW.1 hpW.2.1⟩
  obtain ⟨K, hK⟩ : ∃ k, Hid (fitK L ta tn A = k) := ⟨_, show _ = _ from rfl⟩
  have hix : idxR (fun r => fitsB r ta tn A) L = if K < L.length then (K : Int) else -1 := by
    rw [← show fitK L ta tn A = K from hK.out]; rfl
  simp only [hix] at HIX
  rw [show fitK L ta tn A = K from hK.out] at hk hd
  simp only [if_pos hk] at HIX
  obtain ⟨HRK⟩ : Nonempty (Hid (∃ b o, p = some ⟨b, o, none⟩ ∧ ∀ w', Below w.heap.size w w' → RuleAt w' b (o + K * 11) (ruleN L K))) := ⟨by
    obtain ⟨b, o, e, c⟩ := h K hk
    exact ⟨b, o, e, fun w' hb => by rw [ruleN_at L K hk]; exact c.below hb⟩⟩
  obtain ⟨r, hr⟩ : ∃ r, Hid (ruleN L K = r) := ⟨_, show _ = _ from rfl⟩
  rw [show ruleN L K = r from hr.out] at HRK hd
  have q3 : (K : Int) < L.length := by omega
  have q4 : decide ((K : Int) < 0) = false := decide_eq_false (by omega)
  have hn' : ((L.length : Int) == 0) = false := by rw [beq_eq_false_iff_ne]; omega

  obtain ⟨HP⟩ : Nonempty (Hid (PB w _ w.heap.size ta tn #[.slice p0 A.path.length cp0, .int .i64 A.pref, .int .i64 A.med, .int .i64 A.org, .slice q0 A.tags.length cq0] #[.slice none 0 0, .int .i64 0, .int .i64 0, .int .i64 0, .slice none 0 0])) := ⟨pb_start w ta tn _ _⟩
  obtain ⟨W0, hW0⟩ : ∃ W0, Hid (((w.alloc (.cells #[.int .i64 ta, .int .i64 tn] 24)).alloc (.cells #[.slice p0 A.path.length cp0, .int .i64 A.pref, .int .i64 A.med, .int .i64 A.org, .slice q0 A.tags.length cq0] 27)).alloc (.cells #[.slice none 0 0, .int .i64 0, .int .i64 0, .int .i64 0, .slice none 0 0] 27) = W0) := ⟨_, show _ = _ from rfl⟩
  rw [show ((w.alloc (.cells #[.int .i64 ta, .int .i64 tn] 24)).alloc (.cells #[.slice p0 A.path.length cp0, .int .i64 A.pref, .int .i64 A.med, .int .i64 A.org, .slice q0 A.tags.length cq0] 27)).alloc (.cells #[.slice none 0 0, .int .i64 0, .int .i64 0, .int .i64 0, .slice none 0 0] 27) = W0 from hW0.out] at HP
  obtain ⟨B, hB⟩ : ∃ B, Hid (w.heap.size = B) := ⟨_, show _ = _ from rfl⟩
  clear hE h h1 h2 i1 i2 k1 k2 ha0 hc hc0 hn hix hK hr
  go_enter Tryd.func6, Tryd.ntmps6
  go_wp2_with fail
  rw [show ((w.alloc (.cells #[.int .i64 ta, .int .i64 tn] 24)).alloc (.cells #[.slice p0 A.path.length cp0, .int .i64 A.pref, .int .i64 A.med, .int .i64 A.org, .slice q0 A.tags.length cq0] 27)).alloc (.cells #[.slice none 0 0, .int .i64 0, .int .i64 0, .int .i64 0, .slice none 0 0] 27) = W0 from hW0.out]
  clear hW0
  rw [show w.heap.size = B from hB.out] at HP HIX HRK ⊢
  refine (HC.out W0 (by first | exact HP.out.2.2.2 | (rw [show w.heap.size = B from hB.out]; exact HP.out.2.2.2))).mono ?_
  rintro e w1 ⟨⟨u1, rfl, hu1⟩, hb1⟩
  obtain ⟨HP1⟩ : Nonempty (Hid (PB w w1 B ta tn #[.slice p0 A.path.length cp0, .int .i64 A.pref, .int .i64 A.med, .int .i64 A.org, .slice q0 A.tags.length cq0] #[.slice none 0 0, .int .i64 0, .int .i64 0, .int .i64 0, .slice none 0 0])) := ⟨HP.out.on hb1⟩
  clear HP hb1 HC
  obtain ⟨-, rfl⟩ : _ ∧ u1 = .nilIface := by
    rcases isErr_cases hu1 with h | ⟨h, -⟩
    · exact h
    · omega
  clear hu1
  go_wp2_with fail
  refine (HIX.out w1 HP1.out).mono ?_
  rintro e w2 ⟨rfl, hb2⟩
  obtain ⟨HP2⟩ : Nonempty (Hid (PB w w2 B ta tn #[.slice p0 A.path.length cp0, .int .i64 A.pref, .int .i64 A.med, .int .i64 A.org, .slice q0 A.tags.length cq0] #[.slice none 0 0, .int .i64 0, .int .i64 0, .int .i64 0, .slice none 0 0])) := ⟨HP1.out.on hb2⟩
  clear hb2 HIX HP1
  obtain ⟨b, o, rfl, hx⟩ := HRK.out
  obtain ⟨c0, c1, c2, c3, c4, c5, c6, c7, c8, c9, c10⟩ := (hx w2 HP2.out.2.2.2).cells
  rw [hd] at c6
  clear hx HRK c0 c1 c2 c3 c4 c5 c7 c8 c9 c10
  obtain ⟨r0, r1, r2, r3, r4⟩ := HP2.out.res
  have y0 := HP2.out.soft 0
  have y1 := HP2.out.soft 1
  have y2 := HP2.out.soft 2
  have y3 := HP2.out.soft 3
  have y4 := HP2.out.soft 4
  go_wp2_with fail
  refine bodyPost_ret (v := .tuple #[.agg #[.slice none 0 0, .int .i64 0, .int .i64 0, .int .i64 0, .slice none 0 0], .bool false, .nilIface]) (by simp [results, Tryd.results6, go_sem, r0, r1, r2, r3, r4]) rfl ⟨⟨_, _, rfl, attrG_none _ _, .inl ⟨rfl, rfl⟩⟩, ?_⟩
  rw [show w.heap.size = B from hB.out]
  exact setFive (R := B + 2) HP2.out.2.2.2 (by omega) _ _ _ _ _
end Go.Proofs.YtnifhaopjhgmnaaDoor
