/-
  Package rule's made: what it returns.
-/
import Derived.Test.YtnifhaopjhgmnaaDoorRuleIdx
import Derived.Test.YtnifhaopjhgmnaaDoorGJ
import Derived.Deep.Cut
namespace Go.Proofs.YtnifhaopjhgmnaaDoor
open Go.RowKit

theorem tagC_sign (A : At) (x : Int) : 0 ≤ tagC A x := by
  have hs := fault_sign A
  unfold tagC
  (repeat' split) <;> omega
theorem leadC_sign (A : At) (x n : Int) : 0 ≤ leadC A x n := by
  have hs := fault_sign A
  unfold leadC
  (repeat' split) <;> omega
/-- a preference, a distance, from now on. -/
def setA (r : Rl) (A : At) : At := { A with pref := if -1 < r.pref then r.pref else A.pref, med := if -1 < r.med then r.med else A.med }
def midA (r : Rl) (A : At) : At := if r.add = 0 then setA r A else tagA (setA r A) r.add
def midC (r : Rl) (A : At) : Nat := if r.add = 0 then 0 else (tagC (setA r A) r.add).toNat
/-- what a rule makes: the number of an error, what is told. -/
def madeC (r : Rl) (x : Int) (A : At) : Nat := if 0 < midC r A then midC r A else (leadC (midA r A) x r.lead).toNat
def madeA (r : Rl) (x : Int) (A : At) : At := leadA (midA r A) x r.lead
theorem midA_len (r : Rl) (A : At) : (midA r A).path = A.path ∧ (midA r A).tags.length ≤ A.tags.length + 1 := by
  unfold midA
  split
  · exact ⟨rfl, by show A.tags.length ≤ _; omega⟩
  · exact ⟨rfl, (tagIns_len A.tags r.add).1⟩
theorem tagIns_le (T : List Int) (x : Int) : (tagIns T x).length ≤ T.length + 1 := (tagIns_len T x).1
theorem AttrG.set5 {w : World} {v : Value} {A : At} {N : Nat} (h : AttrG w v A N) {B : Nat} (hB : B < N) (a b c d e : Value) : AttrG (((((w.setCell ⟨B, 0, none⟩ a).setCell ⟨B, 1, none⟩ b).setCell ⟨B, 2, none⟩ c).setCell ⟨B, 3, none⟩ d).setCell ⟨B, 4, none⟩ e) v A N := by
  obtain ⟨p, cp, q, cq, e', i1, i2, k1, k2, n1, n2⟩ := h
  have m1 : ∀ b o, p = some ⟨b, o, none⟩ → B < b := fun b o e => by have := n1 b o e; omega
  have m2 : ∀ b o, q = some ⟨b, o, none⟩ → B < b := fun b o e => by have := n2 b o e; omega
  exact ⟨p, cp, q, cq, e', ((((i1.set m1 _ _).set m1 _ _).set m1 _ _).set m1 _ _).set m1 _ _, ((((i2.set m2 _ _).set m2 _ _).set m2 _ _).set m2 _ _).set m2 _ _, k1, k2, n1, n2⟩
theorem AttrG.mono {w : World} {v : Value} {A : At} {N M : Nat} (h : AttrG w v A N) (hM : M ≤ N) : AttrG w v A M := by
  obtain ⟨p, cp, q, cq, e', i1, i2, k1, k2, n1, n2⟩ := h
  exact ⟨p, cp, q, cq, e', i1, i2, k1, k2, fun b o e => Nat.le_trans hM (n1 b o e), fun b o e => Nat.le_trans hM (n2 b o e)⟩
/-- three boxes: a rule's, an attribute's, the answer's. -/
def MB (w wr : World) (B : Nat) (r : Rl) (va vr : Array Value) : Prop :=
  RuleAt wr B 0 r ∧ wr.heap[B + 1]? = some (.cells va 27 (0, 0)) ∧ wr.heap[B + 2]? = some (.cells vr 27 (0, 0)) ∧ Below B w wr
theorem MB.size {w wr : World} {B : Nat} {r : Rl} {va vr : Array Value} (h : MB w wr B r va vr) : B + 2 < wr.heap.size := (Array.getElem?_eq_some_iff.1 h.2.2.1).1
theorem MB.on {w wr w' : World} {B : Nat} {r : Rl} {va vr : Array Value} (h : MB w wr B r va vr) (hb : Below wr.heap.size wr w') : MB w w' B r va vr := by
  have l := h.size
  obtain ⟨a, b, c, d⟩ := h
  exact ⟨a.below hb, by rw [hb.block _ (by omega)]; exact b, by rw [hb.block _ l]; exact c, d.trans (hb.mono (by omega))⟩
theorem RuleAt.other {w : World} {b o : Nat} {r : Rl} (h : RuleAt w b o r) {c : Nat} (hc : b ≠ c) (k : Nat) (u : Value) : RuleAt (w.setCell ⟨c, k, none⟩ u) b o r := fun j v hj => by
  rw [World.cell?_setCell_other _ _ _ _ (by intro he; simp at he <;> omega)]; exact h j v hj
theorem MB.set {w wr : World} {B : Nat} {r : Rl} {va vr : Array Value} (h : MB w wr B r va vr) (k : Nat) (u : Value) : MB w (wr.setCell ⟨B + 1, k, none⟩ u) B r (va.setIfInBounds k u) vr :=
  ⟨h.1.other (by omega) _ _, heap_setCell_same wr (B + 1) k va _ u h.2.1, by rw [Below.heap_setCell _ _ _ _ (by simp)]; exact h.2.2.1, h.2.2.2.setCell (by simp) _⟩
theorem mb_start (w : World) (r : Rl) (va vr : Array Value) : MB w (((w.alloc (.cells #[.int .i64 r.wa, .int .i64 r.wn, .int .i64 r.lo, .int .i64 r.hi, .int .i64 r.tag, .int .i64 r.sys, .bool r.deny, .int .i64 r.pref, .int .i64 r.med, .int .i64 r.add, .int .i64 r.lead] 37)).alloc (.cells va 27)).alloc (.cells vr 27)) w.heap.size r va vr := by
  obtain ⟨w0, hw0⟩ : ∃ w0, (w.alloc (.cells #[.int .i64 r.wa, .int .i64 r.wn, .int .i64 r.lo, .int .i64 r.hi, .int .i64 r.tag, .int .i64 r.sys, .bool r.deny, .int .i64 r.pref, .int .i64 r.med, .int .i64 r.add, .int .i64 r.lead] 37)) = w0 := ⟨_, rfl⟩
  have h0 := rule_boxed w r
  have hs : w0.heap.size = w.heap.size + 1 := by rw [← hw0]; simp
  rw [hw0] at h0 ⊢
  obtain ⟨w1, hw1⟩ : ∃ w1, w0.alloc (.cells va 27) = w1 := ⟨_, rfl⟩
  have h1 := Go.heap_alloc_new w0 (.cells va 27)
  have b1 := below_alloc w0 (.cells va 27)
  have hs1 : w1.heap.size = w.heap.size + 2 := by rw [← hw1]; simp; omega
  rw [hw1, hs] at h1
  rw [hw1] at b1 ⊢
  have h2 := Go.heap_alloc_new w1 (.cells vr 27)
  have b2 := below_alloc w1 (.cells vr 27)
  rw [hs1] at h2
  exact ⟨(h0.2.below b1).below b2, by rw [b2.block _ (by omega)]; exact h1, h2, (h0.1.trans (b1.mono (by omega))).trans (b2.mono (by omega))⟩
theorem MB.arg {w wr : World} {B : Nat} {r : Rl} {a b c d e : Value} {vr : Array Value} (h : MB w wr B r #[a, b, c, d, e] vr) : wr.cell? ⟨B + 1, 0, none⟩ = some a ∧ wr.cell? ⟨B + 1, 1, none⟩ = some b ∧ wr.cell? ⟨B + 1, 2, none⟩ = some c ∧ wr.cell? ⟨B + 1, 3, none⟩ = some d ∧ wr.cell? ⟨B + 1, 4, none⟩ = some e := by
  refine ⟨?_, ?_, ?_, ?_, ?_⟩ <;> simp [World.cell?, h.2.1]
theorem MB.res {w wr : World} {B : Nat} {r : Rl} {a b c d e : Value} {va : Array Value} (h : MB w wr B r va #[a, b, c, d, e]) : wr.cell? ⟨B + 2, 0, none⟩ = some a ∧ wr.cell? ⟨B + 2, 1, none⟩ = some b ∧ wr.cell? ⟨B + 2, 2, none⟩ = some c ∧ wr.cell? ⟨B + 2, 3, none⟩ = some d ∧ wr.cell? ⟨B + 2, 4, none⟩ = some e := by
  refine ⟨?_, ?_, ?_, ?_, ?_⟩ <;> simp [World.cell?, h.2.2.1]
theorem MB.soft {w wr : World} {B : Nat} {r : Rl} {va vr : Array Value} (h : MB w wr B r va vr) (k : Nat) : wr.frozen? ⟨B + 1, k, none⟩ = false ∧ wr.frozen? ⟨B + 2, k, none⟩ = false := by
  constructor <;> simp [World.frozen?, h.2.1, h.2.2.1]

set_option linter.unusedSimpArgs false in
set_option linter.unusedVariables false in
set_option maxRecDepth 100000 in
set_option maxHeartbeats 8000000 in
theorem made_any (r : Rl) (x : Int) (v : Value) (A : At) (E : Nat → Addr) (m : Int) (w : World) (hE : AttrEnv w E m) (h : AttrK w v A) (h1 : A.path.length ≤ 1000) (h2 : A.tags.length ≤ 1000) :
    Calls Tryd.prog 16 #[rlV r, .int .i64 x, v] w fun e w' => (∃ v', e = .returned (.tuple #[v', ev E (madeC r x A)]) ∧ AttrG w' v' (if madeC r x A = 0 then madeA r x A else noneA) w.heap.size) ∧ Below w.heap.size w w' := by
  obtain ⟨p, cp, q, cq, rfl, i1, i2, k1, k2⟩ := h
  obtain ⟨B, hB⟩ : ∃ B, Hid (w.heap.size = B) := ⟨_, show _ = _ from rfl⟩
  obtain ⟨A1, hA1⟩ : ∃ a, Hid (setA r A = a) := ⟨_, show _ = _ from rfl⟩
  obtain ⟨A2, hA2⟩ : ∃ a, Hid (midA r A = a) := ⟨_, show _ = _ from rfl⟩
  obtain ⟨ct, hct⟩ : ∃ c, Hid ((tagC A1 r.add).toNat = c) := ⟨_, show _ = _ from rfl⟩
  obtain ⟨cl, hcl⟩ : ∃ c, Hid ((leadC A2 x r.lead).toNat = c) := ⟨_, show _ = _ from rfl⟩
  obtain ⟨AFin, hAFin⟩ : ∃ a, Hid ((if madeC r x A = 0 then madeA r x A else noneA) = a) := ⟨_, show _ = _ from rfl⟩
  obtain ⟨cf, hcf⟩ : ∃ c, Hid (madeC r x A = c) := ⟨_, show _ = _ from rfl⟩
  have HM : Hid ((r.add = 0 → A2 = A1) ∧ (r.add ≠ 0 → ct ≠ 0 → cf = ct ∧ AFin = noneA) ∧ (r.add ≠ 0 → ct = 0 → (if tagC A1 r.add = 0 then tagA A1 r.add else noneA) = A2) ∧ ((r.add ≠ 0 → ct = 0) → cf = cl ∧ AFin = (if leadC A2 x r.lead = 0 then leadA A2 x r.lead else noneA))) := by
    refine ⟨fun h => ?_, fun h hc => ?_, fun h hc => ?_, fun h => ?_⟩
    · rw [← hA2.out, ← hA1.out]; unfold midA; rw [if_pos h]
    · have e1 : midC r A = ct := by unfold midC; rw [if_neg h, hA1.out, hct.out]
      have e2 : madeC r x A = ct := by unfold madeC; rw [e1, if_pos (by omega)]
      exact ⟨by rw [← hcf.out, e2], by rw [← hAFin.out, e2, if_neg hc]⟩
    · have := tagC_sign A1 r.add
      have := hct.out
      rw [if_pos (by omega), ← hA2.out, ← hA1.out]
      unfold midA
      rw [if_neg h]
    · have e1 : midC r A = 0 := by
        unfold midC
        by_cases h0 : r.add = 0
        · rw [if_pos h0]
        · rw [if_neg h0, hA1.out, hct.out]; exact h h0
      have e2 : madeC r x A = cl := by unfold madeC; rw [e1, if_neg (by omega), hA2.out, hcl.out]
      refine ⟨by rw [← hcf.out, e2], ?_⟩
      rw [← hAFin.out, e2]
      have := leadC_sign A2 x r.lead
      have := hcl.out
      unfold madeA
      rw [hA2.out]
      by_cases hc : cl = 0
      · rw [if_pos hc, if_pos (by omega)]
      · rw [if_neg hc, if_neg (by omega)]
  rw [show madeC r x A = cf from hcf.out] at hAFin ⊢
  rw [show (if cf = 0 then madeA r x A else noneA) = AFin from hAFin.out]
  obtain ⟨HA1⟩ : Nonempty (Hid (A1.path = A.path ∧ A1.tags = A.tags ∧ A1.org = A.org)) := ⟨by rw [← hA1.out]; exact ⟨rfl, rfl, rfl⟩⟩
  obtain ⟨f1, hf1⟩ : ∃ f, Hid (A1.pref = f) := ⟨_, show _ = _ from rfl⟩
  obtain ⟨n1, hn1⟩ : ∃ f, Hid (A1.med = f) := ⟨_, show _ = _ from rfl⟩
  have HF1 : Hid ((-1 < r.pref → f1 = r.pref) ∧ (¬ -1 < r.pref → f1 = A.pref)) := by
    rw [← hf1.out, ← hA1.out]
    exact ⟨fun h => by show (if -1 < r.pref then _ else _) = _; rw [if_pos h], fun h => by show (if -1 < r.pref then _ else _) = _; rw [if_neg h]⟩
  have HN1 : Hid ((-1 < r.med → n1 = r.med) ∧ (¬ -1 < r.med → n1 = A.med)) := by
    rw [← hn1.out, ← hA1.out]
    exact ⟨fun h => by show (if -1 < r.med then _ else _) = _; rw [if_pos h], fun h => by show (if -1 < r.med then _ else _) = _; rw [if_neg h]⟩
  obtain ⟨HV⟩ : Nonempty (Hid (∀ w', Below w.heap.size w w' → AttrK w' (.agg #[.slice p A.path.length cp, .int .i64 f1, .int .i64 n1, .int .i64 A.org, .slice q A.tags.length cq]) A1)) := ⟨fun w' hb => by
    obtain ⟨e1, e2, e3⟩ := HA1.out
    exact ⟨p, cp, q, cq, by rw [e1, e2, e3, hf1.out, hn1.out], by rw [e1]; exact i1.below hb, by rw [e2]; exact i2.below hb, by rw [e1]; exact k1, by rw [e2]; exact k2⟩⟩
  obtain ⟨HTG⟩ : Nonempty (Hid (∀ v' w', Below w.heap.size w w' → AttrK w' v' A1 → Calls _ _ _ _ _)) := ⟨fun v' w' hb hv => tag_own v' A1 r.add E m w' (hE.below hb) hv (by rw [HA1.out.1]; omega) (by rw [HA1.out.2.1]; omega)⟩
  have hl2 : A2.path.length ≤ 1000000 ∧ A2.tags.length ≤ 1000000 := by
    have := midA_len r A
    rw [hA2.out] at this
    exact ⟨by rw [this.1]; omega, by omega⟩
  obtain ⟨HLD⟩ : Nonempty (Hid (∀ v' w', Below w.heap.size w w' → AttrK w' v' A2 → Calls _ _ _ _ _)) := ⟨fun v' w' hb hv => lead_own v' A2 x r.lead E m w' (hE.below hb) hv hl2.1 hl2.2⟩
  simp only [show (tagC A1 r.add).toNat = ct from hct.out] at HTG
  simp only [show (leadC A2 x r.lead).toNat = cl from hcl.out] at HLD
  obtain ⟨AT, hAT⟩ : ∃ a, Hid ((if tagC A1 r.add = 0 then tagA A1 r.add else noneA) = a) := ⟨_, show _ = _ from rfl⟩
  obtain ⟨AL, hAL⟩ : ∃ a, Hid ((if leadC A2 x r.lead = 0 then leadA A2 x r.lead else noneA) = a) := ⟨_, show _ = _ from rfl⟩
  rw [show (if tagC A1 r.add = 0 then tagA A1 r.add else noneA) = AT from hAT.out] at HM HTG
  rw [show (if leadC A2 x r.lead = 0 then leadA A2 x r.lead else noneA) = AL from hAL.out] at HM HLD
  obtain ⟨P, f0, n0, o, T⟩ := A
  simp only at *
  unfold rlV
  obtain ⟨HS⟩ : Nonempty (Hid (MB w _ w.heap.size r #[.slice p P.length cp, .int .i64 f0, .int .i64 n0, .int .i64 o, .slice q T.length cq] #[.slice none 0 0, .int .i64 0, .int .i64 0, .int .i64 0, .slice none 0 0])) := ⟨mb_start w r _ _⟩
  obtain ⟨W0, hW0⟩ : ∃ W0, Hid ((((w.alloc (.cells #[.int .i64 r.wa, .int .i64 r.wn, .int .i64 r.lo, .int .i64 r.hi, .int .i64 r.tag, .int .i64 r.sys, .bool r.deny, .int .i64 r.pref, .int .i64 r.med, .int .i64 r.add, .int .i64 r.lead] 37)).alloc (.cells #[.slice p P.length cp, .int .i64 f0, .int .i64 n0, .int .i64 o, .slice q T.length cq] 27)).alloc (.cells #[.slice none 0 0, .int .i64 0, .int .i64 0, .int .i64 0, .slice none 0 0] 27)) = W0) := ⟨_, show _ = _ from rfl⟩
  rw [show (((w.alloc (.cells #[.int .i64 r.wa, .int .i64 r.wn, .int .i64 r.lo, .int .i64 r.hi, .int .i64 r.tag, .int .i64 r.sys, .bool r.deny, .int .i64 r.pref, .int .i64 r.med, .int .i64 r.add, .int .i64 r.lead] 37)).alloc (.cells #[.slice p P.length cp, .int .i64 f0, .int .i64 n0, .int .i64 o, .slice q T.length cq] 27)).alloc (.cells #[.slice none 0 0, .int .i64 0, .int .i64 0, .int .i64 0, .slice none 0 0] 27)) = W0 from hW0.out] at HS
  clear i1 i2 k1 k2 hE h1 h2 hl2 hA1 hA2 hct hcl hAFin hcf hf1 hn1 hAT hAL HA1
  go_enter Tryd.func16, Tryd.ntmps16
  go_upto_region 1 with fail
  rw [show (((w.alloc (.cells #[.int .i64 r.wa, .int .i64 r.wn, .int .i64 r.lo, .int .i64 r.hi, .int .i64 r.tag, .int .i64 r.sys, .bool r.deny, .int .i64 r.pref, .int .i64 r.med, .int .i64 r.add, .int .i64 r.lead] 37)).alloc (.cells #[.slice p P.length cp, .int .i64 f0, .int .i64 n0, .int .i64 o, .slice q T.length cq] 27)).alloc (.cells #[.slice none 0 0, .int .i64 0, .int .i64 0, .int .i64 0, .slice none 0 0] 27)) = W0 from hW0.out]
  clear hW0
  rw [show w.heap.size = B from hB.out] at HS HTG HLD HV ⊢
  obtain ⟨c0, c1, c2, c3, c4, c5, c6, c7, c8, c9, c10⟩ := HS.out.1.cells0
  go_upto_if 12 with fail
  go_cut [] from 10 (fun w' => ∃ W : World, Hid (MB w W B r #[.slice p P.length cp, .int .i64 f1, .int .i64 n0, .int .i64 o, .slice q T.length cq] #[.slice none 0 0, .int .i64 0, .int .i64 0, .int .i64 0, .slice none 0 0]) ∧ W = w')
  case first =>
    by_cases hp : -1 < r.pref
    · have hp' : decide (-1 < r.pref) = true := decide_eq_true hp
      obtain rfl := HF1.out.1 hp
      have y1 := (HS.out.soft 1).1
      obtain ⟨a0, a1, a2, a3, a4⟩ := HS.out.arg
      go_wp2_with fail
      go_meet
      exact ⟨_, HS.out.set 1 _, rfl⟩
    · have hp' : decide (-1 < r.pref) = false := decide_eq_false hp
      obtain rfl := HF1.out.2 hp
      go_wp2_with fail
      go_meet
      exact ⟨_, HS.out, rfl⟩
  case rest =>
    obtain ⟨W1, HS1, hw1⟩ := hcut
    subst hw1
    clear c0 c1 c2 c3 c4 c5 c6 c7 c8 c9 c10 HS
    obtain ⟨c0, c1, c2, c3, c4, c5, c6, c7, c8, c9, c10⟩ := HS1.out.1.cells0
    go_upto_if 18 with fail
    go_cut [] from 10 (fun w' => ∃ W : World, Hid (MB w W B r #[.slice p P.length cp, .int .i64 f1, .int .i64 n1, .int .i64 o, .slice q T.length cq] #[.slice none 0 0, .int .i64 0, .int .i64 0, .int .i64 0, .slice none 0 0]) ∧ W = w')
    case first =>
      by_cases hp : -1 < r.med
      · have hp' : decide (-1 < r.med) = true := decide_eq_true hp
        obtain rfl := HN1.out.1 hp
        have y1 := (HS1.out.soft 2).1
        obtain ⟨a0, a1, a2, a3, a4⟩ := HS1.out.arg
        go_wp2_with fail
        go_meet
        exact ⟨_, HS1.out.set 2 _, rfl⟩
      · have hp' : decide (-1 < r.med) = false := decide_eq_false hp
        obtain rfl := HN1.out.2 hp
        go_wp2_with fail
        go_meet
        exact ⟨_, HS1.out, rfl⟩
    case rest =>
      obtain ⟨W2, HS2, hw2⟩ := hcut
      subst hw2
      clear c0 c1 c2 c3 c4 c5 c6 c7 c8 c9 c10 HS1
      obtain ⟨c0, c1, c2, c3, c4, c5, c6, c7, c8, c9, c10⟩ := HS2.out.1.cells0
      obtain ⟨a0, a1, a2, a3, a4⟩ := HS2.out.arg
      by_cases hadd : r.add = 0
      · have hadd' : (r.add == 0) = true := by rw [beq_iff_eq]; exact hadd
        obtain rfl := HM.out.1 hadd
        obtain ⟨rfl, rfl⟩ := HM.out.2.2.2 (fun h => absurd hadd h)
        obtain ⟨HL⟩ : Nonempty (Hid (Calls _ _ _ _ _)) := ⟨HLD.out _ W2 HS2.out.2.2.2 (HV.out W2 HS2.out.2.2.2)⟩
        clear hadd HM HTG HLD HV
        go_wp2_with fail
        refine HL.out.mono ?_
        rintro e w5 ⟨⟨v5, rfl, hg5⟩, hb5⟩
        obtain ⟨p5, cp5, q5, cq5, rfl, i1, i2, k1, k2, m1, m2⟩ := hg5
        obtain ⟨HS5⟩ : Nonempty (Hid (MB w w5 B r _ _ ∧ B + 2 < W2.heap.size ∧ AttrG w5 (.agg #[.slice p5 AFin.path.length cp5, .int .i64 AFin.pref, .int .i64 AFin.med, .int .i64 AFin.org, .slice q5 AFin.tags.length cq5]) AFin W2.heap.size)) := ⟨⟨HS2.out.on hb5, HS2.out.size, p5, cp5, q5, cq5, rfl, i1, i2, k1, k2, m1, m2⟩⟩
        clear hb5 HL i1 i2 k1 k2 m1 m2 c0 c1 c2 c3 c4 c5 c6 c7 c8 c9 c10 a0 a1 a2 a3 a4 HS2
        obtain ⟨u, hu⟩ : ∃ u, Hid (ev E cf = u) := ⟨_, show _ = _ from rfl⟩
        rw [show ev E cf = u from hu.out]
        obtain ⟨r0, r1, r2, r3, r4⟩ := HS5.out.1.res
        have y0 := (HS5.out.1.soft 0).2
        have y1 := (HS5.out.1.soft 1).2
        have y2 := (HS5.out.1.soft 2).2
        have y3 := (HS5.out.1.soft 3).2
        have y4 := (HS5.out.1.soft 4).2
        go_wp2_with fail
        refine bodyPost_ret (v := .tuple #[.agg #[.slice p5 AFin.path.length cp5, .int .i64 AFin.pref, .int .i64 AFin.med, .int .i64 AFin.org, .slice q5 AFin.tags.length cq5], u]) (by simp [results, Tryd.results16, go_sem, r0, r1, r2, r3, r4]) rfl ⟨⟨_, by rw [hu.out], (HS5.out.2.2.set5 (B := B + 2) HS5.out.2.1 _ _ _ _ _).mono (by have := HS5.out.2.1; have := hB.out; omega)⟩, ?_⟩
        rw [show w.heap.size = B from hB.out]
        exact setFive (R := B + 2) HS5.out.1.2.2.2 (by omega) _ _ _ _ _
      · have hadd' : (r.add == 0) = false := by rw [beq_eq_false_iff_ne]; exact hadd
        obtain ⟨HT⟩ : Nonempty (Hid (Calls _ _ _ _ _)) := ⟨HTG.out _ W2 HS2.out.2.2.2 (HV.out W2 HS2.out.2.2.2)⟩
        have hm := HM.out
        go_wp2_with fail
        refine HT.out.mono ?_
        rintro e w3 ⟨⟨v3, rfl, hg3⟩, hb3⟩
        obtain ⟨p3, cp3, q3, cq3, rfl, i1, i2, k1, k2, n1', n2'⟩ := hg3
        obtain ⟨HS3⟩ : Nonempty (Hid (MB w w3 B r _ _ ∧ B + 2 < W2.heap.size ∧ W2.heap.size ≤ w3.heap.size ∧ AttrG w3 (.agg #[.slice p3 AT.path.length cp3, .int .i64 AT.pref, .int .i64 AT.med, .int .i64 AT.org, .slice q3 AT.tags.length cq3]) AT W2.heap.size)) := ⟨⟨HS2.out.on hb3, HS2.out.size, hb3.size, p3, cp3, q3, cq3, rfl, i1, i2, k1, k2, n1', n2'⟩⟩
        clear hb3 HT i1 i2 k1 k2 n1' n2' c0 c1 c2 c3 c4 c5 c6 c7 c8 c9 c10 a0 a1 a2 a3 a4 HTG
        cases ct with
        | succ c =>
          obtain ⟨rfl, rfl⟩ := hm.2.1 hadd (by omega)
          obtain ⟨u, hu⟩ : ∃ u, Hid (E c = u) := ⟨_, show _ = _ from rfl⟩
          simp only [ev]
          rw [show E c = u from hu.out]
          clear hm HM HV HLD hadd
          have hsz : B + 2 < w3.heap.size := by have := HS3.out.2.1; have := HS3.out.2.2.1; omega
          obtain ⟨r0, r1, r2, r3, r4⟩ := HS3.out.1.res
          have y0 := (HS3.out.1.soft 0).2
          have y1 := (HS3.out.1.soft 1).2
          have y2 := (HS3.out.1.soft 2).2
          have y3 := (HS3.out.1.soft 3).2
          have y4 := (HS3.out.1.soft 4).2
          go_wp2_with fail
          refine bodyPost_ret (v := .tuple #[.agg #[.slice none 0 0, .int .i64 0, .int .i64 0, .int .i64 0, .slice none 0 0], .iface 117 (.pointer (some u))]) (by simp [results, Tryd.results16, go_sem, r0, r1, r2, r3, r4, hsz]) rfl ⟨⟨_, by simp only [ev]; rw [hu.out], attrG_none _ _⟩, ?_⟩
          rw [show w.heap.size = B from hB.out]
          exact (setFive (R := B + 1 + 1) HS3.out.1.2.2.2 (by omega) _ _ _ _ _).alloc (by simp [World.setCell]; omega) _
        | zero =>
          obtain rfl := hm.2.2.1 hadd rfl
          obtain ⟨rfl, rfl⟩ := hm.2.2.2 (fun _ => rfl)
          simp only [ev]
          have hsz : B + 1 < w3.heap.size := by have := HS3.out.2.1; have := HS3.out.2.2.1; omega
          have y0 := (HS3.out.1.soft 0).1
          have y1 := (HS3.out.1.soft 1).1
          have y2 := (HS3.out.1.soft 2).1
          have y3 := (HS3.out.1.soft 3).1
          have y4 := (HS3.out.1.soft 4).1
          obtain ⟨a0, a1, a2, a3, a4⟩ := HS3.out.1.arg
          obtain ⟨c0, c1, c2, c3, c4, c5, c6, c7, c8, c9, c10⟩ := HS3.out.1.1.cells0
          clear hm HM HV hadd
          go_upto_region 10 with fail
          obtain ⟨W3, hW3⟩ : ∃ W3, Hid (((((w3.setCell ⟨B + 1, 0, none⟩ (.slice p3 AT.path.length cp3)).setCell ⟨B + 1, 1, none⟩ (.int .i64 AT.pref)).setCell ⟨B + 1, 2, none⟩ (.int .i64 AT.med)).setCell ⟨B + 1, 3, none⟩ (.int .i64 AT.org)).setCell ⟨B + 1, 4, none⟩ (.slice q3 AT.tags.length cq3) = W3) := ⟨_, show _ = _ from rfl⟩
          obtain ⟨HS3'⟩ : Nonempty (Hid (MB w W3 B r #[.slice p3 AT.path.length cp3, .int .i64 AT.pref, .int .i64 AT.med, .int .i64 AT.org, .slice q3 AT.tags.length cq3] #[.slice none 0 0, .int .i64 0, .int .i64 0, .int .i64 0, .slice none 0 0] ∧ AttrG W3 (.agg #[.slice p3 AT.path.length cp3, .int .i64 AT.pref, .int .i64 AT.med, .int .i64 AT.org, .slice q3 AT.tags.length cq3]) AT W2.heap.size)) := ⟨by
            rw [← show _ = W3 from hW3.out]
            have := ((((HS3.out.1.set 0 (.slice p3 AT.path.length cp3)).set 1 (.int .i64 AT.pref)).set 2 (.int .i64 AT.med)).set 3 (.int .i64 AT.org)).set 4 (.slice q3 AT.tags.length cq3)
            simp only [List.setIfInBounds_toArray, List.set_cons_zero, List.set_cons_succ] at this
            exact ⟨this, HS3.out.2.2.2.set5 (B := B + 1) (by have := HS3.out.2.1; omega) _ _ _ _ _⟩⟩
          obtain ⟨W4, hW4⟩ : ∃ W4, Hid (W3.alloc (.cells #[.slice p3 AT.path.length cp3, .int .i64 AT.pref, .int .i64 AT.med, .int .i64 AT.org, .slice q3 AT.tags.length cq3] 27) = W4) := ⟨_, show _ = _ from rfl⟩
          obtain ⟨HS4⟩ : Nonempty (Hid (MB w W4 B r #[.slice p3 AT.path.length cp3, .int .i64 AT.pref, .int .i64 AT.med, .int .i64 AT.org, .slice q3 AT.tags.length cq3] #[.slice none 0 0, .int .i64 0, .int .i64 0, .int .i64 0, .slice none 0 0] ∧ AttrG W4 (.agg #[.slice p3 AT.path.length cp3, .int .i64 AT.pref, .int .i64 AT.med, .int .i64 AT.org, .slice q3 AT.tags.length cq3]) AT W2.heap.size)) := ⟨by
            rw [← show _ = W4 from hW4.out]
            obtain ⟨p', cp', q', cq', e', i1, i2, k1, k2, n1, n2⟩ := HS3'.out.2
            exact ⟨HS3'.out.1.on (below_alloc _ _), p', cp', q', cq', e', i1.below (below_alloc _ _), i2.below (below_alloc _ _), k1, k2, n1, n2⟩⟩
          rw [show ((((w3.setCell ⟨B + 1, 0, none⟩ (.slice p3 AT.path.length cp3)).setCell ⟨B + 1, 1, none⟩ (.int .i64 AT.pref)).setCell ⟨B + 1, 2, none⟩ (.int .i64 AT.med)).setCell ⟨B + 1, 3, none⟩ (.int .i64 AT.org)).setCell ⟨B + 1, 4, none⟩ (.slice q3 AT.tags.length cq3) = W3 from hW3.out, show W3.alloc (.cells #[.slice p3 AT.path.length cp3, .int .i64 AT.pref, .int .i64 AT.med, .int .i64 AT.org, .slice q3 AT.tags.length cq3] 27) = W4 from hW4.out]
          clear hW4 hW3 HS3' c0 c1 c2 c3 c4 c5 c6 c7 c8 c9 c10 a0 a1 a2 a3 a4 y0 y1 y2 y3 y4 hsz HS3
          obtain ⟨HS2⟩ : Nonempty (Hid (MB w W4 B r _ _)) := ⟨HS4.out.1⟩
          obtain ⟨c0, c1, c2, c3, c4, c5, c6, c7, c8, c9, c10⟩ := HS2.out.1.cells0
          obtain ⟨a0, a1, a2, a3, a4⟩ := HS2.out.arg
          obtain ⟨HL⟩ : Nonempty (Hid (Calls _ _ _ _ _)) := ⟨HLD.out _ W4 HS2.out.2.2.2 HS4.out.2.attrK⟩
          clear HS4 HLD
          go_wp2_with fail
          refine HL.out.mono ?_
          rintro e w5 ⟨⟨v5, rfl, hg5⟩, hb5⟩
          obtain ⟨p5, cp5, q5, cq5, rfl, i1, i2, k1, k2, m1, m2⟩ := hg5
          obtain ⟨HS5⟩ : Nonempty (Hid (MB w w5 B r _ _ ∧ B + 2 < W4.heap.size ∧ AttrG w5 (.agg #[.slice p5 AFin.path.length cp5, .int .i64 AFin.pref, .int .i64 AFin.med, .int .i64 AFin.org, .slice q5 AFin.tags.length cq5]) AFin W4.heap.size)) := ⟨⟨HS2.out.on hb5, HS2.out.size, p5, cp5, q5, cq5, rfl, i1, i2, k1, k2, m1, m2⟩⟩
          clear hb5 HL i1 i2 k1 k2 m1 m2 c0 c1 c2 c3 c4 c5 c6 c7 c8 c9 c10 a0 a1 a2 a3 a4 HS2
          obtain ⟨u, hu⟩ : ∃ u, Hid (ev E cf = u) := ⟨_, show _ = _ from rfl⟩
          rw [show ev E cf = u from hu.out]
          obtain ⟨r0, r1, r2, r3, r4⟩ := HS5.out.1.res
          have y0 := (HS5.out.1.soft 0).2
          have y1 := (HS5.out.1.soft 1).2
          have y2 := (HS5.out.1.soft 2).2
          have y3 := (HS5.out.1.soft 3).2
          have y4 := (HS5.out.1.soft 4).2
          go_wp2_with fail
          refine bodyPost_ret (v := .tuple #[.agg #[.slice p5 AFin.path.length cp5, .int .i64 AFin.pref, .int .i64 AFin.med, .int .i64 AFin.org, .slice q5 AFin.tags.length cq5], u]) (by simp [results, Tryd.results16, go_sem, r0, r1, r2, r3, r4]) rfl ⟨⟨_, by rw [hu.out], (HS5.out.2.2.set5 (B := B + 2) HS5.out.2.1 _ _ _ _ _).mono (by have := HS5.out.2.1; have := hB.out; omega)⟩, ?_⟩
          rw [show w.heap.size = B from hB.out]
          exact setFive (R := B + 2) HS5.out.1.2.2.2 (by omega) _ _ _ _ _
end Go.Proofs.YtnifhaopjhgmnaaDoor
