/-
  Package attr's changed: what it returns, at whatever change of one's own copy.
-/
import Derived.Test.YtkebcfjofeoehaaGreatDoorAttrSame
import Derived.Test.YtkebcfjofeoehaaGreatDoorKeptBase
import Derived.Deep.Cut
import Derived.Deep.CutRange
namespace Go.Proofs.YtkebcfjofeoehaaGreatDoor
open Go.RowKit

theorem own_on {w w' : World} {base : Nat} {e : TypeId} {size : Nat} {v : Value} {n : Nat} {xs : List Value} (h : w.ownsRow base e size v n xs) {B : Nat} (hb : Below B w w') (hB : ∀ g, v.ownBlock = some g → g < B) : w'.ownsRow base e size v n xs := by
  refine ⟨h.1, ?_⟩
  rcases h.2 with h2 | ⟨g, cap, cur, rfl, h3, hg, r⟩
  · exact .inl h2
  · exact .inr ⟨g, cap, cur, rfl, h3, by rw [hb.block g (hB g rfl)]; exact hg, r⟩
theorem aOwn_below {w w' : World} {base : Nat} {e : TypeId} {size : Nat} {v : Value} {n : Nat} {xs : List Value} (h : w.ownsRow base e size v n xs) (hb : Below w.heap.size w w') : w'.ownsRow base e size v n xs := own_on h hb (fun g hg => (h.lt g hg).2)
theorem own_set {w : World} {base : Nat} {e : TypeId} {size : Nat} {v : Value} {n : Nat} {xs : List Value} (h : w.ownsRow base e size v n xs) {B : Nat} (hB : B < base) (k : Nat) (u : Value) : (w.setCell ⟨B, k, none⟩ u).ownsRow base e size v n xs := by
  refine ⟨h.1, ?_⟩
  rcases h.2 with h2 | ⟨g, cap, cur, rfl, h3, hg, r⟩
  · exact .inl h2
  · exact .inr ⟨g, cap, cur, rfl, h3, by rw [Below.heap_setCell _ _ _ _ (by simp; omega)]; exact hg, r⟩
/-- a value that holds an attribute whose rows lie from block N on. -/
def AttrG (w : World) (v : Value) (A : At) (N : Nat) : Prop :=
  ∃ p cp q cq, v = .agg #[.slice p A.path.length cp, .int .i64 A.pref, .int .i64 A.med, .int .i64 A.org, .slice q A.tags.length cq] ∧ Ints w p A.path ∧ Ints w q A.tags ∧ Kind1 p A.path.length cp ∧ Kind1 q A.tags.length cq ∧ (∀ b o, p = some ⟨b, o, none⟩ → N ≤ b) ∧ (∀ b o, q = some ⟨b, o, none⟩ → N ≤ b)
theorem AttrG.attrK {w : World} {v : Value} {A : At} {N : Nat} (h : AttrG w v A N) : AttrK w v A := by
  obtain ⟨p, cp, q, cq, e, h1, h2, h3, h4, -, -⟩ := h
  exact ⟨p, cp, q, cq, e, h1, h2, h3, h4⟩
theorem attrG_none (w : World) (N : Nat) : AttrG w (.agg #[.slice none 0 0, .int .i64 0, .int .i64 0, .int .i64 0, .slice none 0 0]) noneA N :=
  ⟨none, 0, none, 0, rfl, ints_nil _ _, ints_nil _ _, .inl ⟨rfl, rfl, rfl⟩, .inl ⟨rfl, rfl, rfl⟩, fun _ _ e => by simp at e, fun _ _ e => by simp at e⟩
/-- an attribute at B, its rows somewhere behind B + 1. -/
def AR (w : World) (B : Nat) (A : At) : Prop := ∃ p cp q cq, w.heap[B]? = some (.cells #[.slice p A.path.length cp, .int .i64 A.pref, .int .i64 A.med, .int .i64 A.org, .slice q A.tags.length cq] 24 (0, 0)) ∧
  Ints w p A.path ∧ Ints w q A.tags ∧ Kind1 p A.path.length cp ∧ Kind1 q A.tags.length cq ∧ (∀ b o, p = some ⟨b, o, none⟩ → B + 1 < b) ∧ (∀ b o, q = some ⟨b, o, none⟩ → B + 1 < b)
/-- an attribute at B with rows of its own. -/
def AP (w : World) (B : Nat) (A : At) : Prop := ∃ p cp q cq S, w.heap[B]? = some (.cells #[.slice p A.path.length cp, .int .i64 A.pref, .int .i64 A.med, .int .i64 A.org, .slice q A.tags.length cq] 24 (0, 0)) ∧
  w.ownsRow (B + 2) 3 1 (.slice p A.path.length cp) A.path.length (A.path.map intV) ∧ w.ownsRow S 3 1 (.slice q A.tags.length cq) A.tags.length (A.tags.map intV) ∧ B + 2 ≤ S ∧ (∀ b o, p = some ⟨b, o, none⟩ → b < S) ∧ S ≤ w.heap.size
theorem ap_ar {w : World} {B : Nat} {A : At} (h : AP w B A) : AR w B A := by
  obtain ⟨p, cp, q, cq, S, h1, h2, h3, h4, h5, h6⟩ := h
  obtain ⟨p', c', e, k1, i1, f1⟩ := own_kind' h2
  obtain ⟨q', d', e', k2, i2, f2⟩ := own_kind' h3
  simp only [Value.slice.injEq, true_and] at e e'
  obtain ⟨rfl, rfl⟩ := e
  obtain ⟨rfl, rfl⟩ := e'
  exact ⟨p, cp, q, cq, h1, i1, i2, k1, k2, fun b o e => by have := f1 b o e; omega, fun b o e => by have := f2 b o e; omega⟩

/-- a change of an attribute's copy at B: the number of its error, and what the copy is behind it. -/
structure Changer1 (f : Nat) (kv1 : Value) (E : Nat → Addr) (c : Nat) (A A' : At) (B : Nat) (w : World) : Prop where
  enters : ∀ args w, (callFunc f args).run Tryz.prog w = .ok (.enter f args) w
  says : ∀ W, Below B w W → AP W B A → Calls Tryz.prog f #[.pointer (some ⟨B, 0, none⟩), kv1] W fun r W' => r = .returned (ev E c) ∧ Below B W W' ∧ W'.heap[B + 1]? = W.heap[B + 1]? ∧ (c = 0 → AR W' B A')
set_option linter.unusedVariables false in
set_option maxRecDepth 100000 in
set_option maxHeartbeats 4000000 in
theorem changed_bad1 (v : Value) (A : At) (f : Nat) (kv1 : Value) (E : Nat → Addr) (m : Int) (w : World) (hE : AttrEnv w E m) (h : AttrK w v A) (h1 : A.path.length ≤ 1000000) (h2 : A.tags.length ≤ 1000000) (hf : 0 < (faultA A).1) :
    Calls Tryz.prog 36 #[v, .func (.func f) #[] #[kv1]] w fun r w' => (∃ v', r = .returned (.tuple #[v', ev E (faultA A).1.toNat]) ∧ AttrG w' v' noneA w.heap.size) ∧ Below w.heap.size w w' := by
  have HC : Hid (∀ w', Below w.heap.size w w' → Calls _ _ _ _ _) := fun w' hb => aCheck_any v A E m w' (hE.below hb) (h.attr.below hb) h1 h2
  have HBA : Hid (∀ v c d w', Below w.heap.size w w' → IsErr w' E v c d → 0 < c → Calls _ _ _ _ _) := fun v c d w' hb he hc => bare_any v c d E m w' (hE.below hb) he hc
  obtain ⟨c, hc⟩ : ∃ c, Hid ((faultA A).1.toNat = c) := ⟨_, show _ = _ from rfl⟩
  obtain ⟨d, hd⟩ : ∃ c, Hid ((faultA A).2 = c) := ⟨_, show _ = _ from rfl⟩
  rw [show (faultA A).1.toNat = c from hc.out, show (faultA A).2 = d from hd.out] at HC
  rw [show (faultA A).1.toNat = c from hc.out]
  have hpos : 0 < c := by rw [← hc.out]; omega
  obtain ⟨p, cp, q, cq, rfl, -, -, -, -⟩ := h
  obtain ⟨P, f0, n, o, T⟩ := A
  simp only at *
  clear hf hE hc hd
  go_enter Tryz.func36, Tryz.ntmps36
  go_wp2_with fail
  refine (HC.out _ (below_two _ _ _)).mono ?_
  rintro e w1 ⟨⟨v1, rfl, hv1⟩, hb1⟩
  have hx := (ax_start w _ _).on hb1
  obtain ⟨HB1⟩ : Nonempty (Hid (AX w w1 w.heap.size _ _)) := ⟨hx⟩
  obtain ⟨HV⟩ : Nonempty (Hid (IsErr w1 E v1 c d)) := ⟨hv1⟩
  rcases isErr_cases hv1 with ⟨rfl, -⟩ | ⟨-, t, a, rfl⟩
  · omega
  obtain ⟨HBC⟩ : Nonempty (Hid (Calls _ _ _ _ _)) := ⟨HBA.out _ c d w1 hx.2.2 hv1 hpos⟩
  obtain ⟨u, hu⟩ : ∃ u, Hid (ev E c = u) := ⟨_, show _ = _ from rfl⟩
  rw [show ev E c = u from hu.out] at HBC
  clear hb1 hv1 HC hx
  go_wp2_with fail
  refine HBC.out.mono ?_
  rintro e w2 ⟨rfl, hb2⟩
  have hx := HB1.out.on hb2
  obtain ⟨HB2⟩ : Nonempty (Hid (AX w w2 w.heap.size _ _)) := ⟨hx⟩
  obtain ⟨r0, r1, r2, r3, r4⟩ := hx.res
  have y0 := (hx.soft 0).2
  have y1 := (hx.soft 1).2
  have y2 := (hx.soft 2).2
  have y3 := (hx.soft 3).2
  have y4 := (hx.soft 4).2
  clear hb2 hx HBC
  go_wp2_with fail
  refine bodyPost_ret (v := .tuple #[.agg #[.slice none 0 0, .int .i64 0, .int .i64 0, .int .i64 0, .slice none 0 0], u]) (by simp [results, Tryz.results36, go_sem, r0, r1, r2, r3, r4]) rfl ⟨⟨_, by rw [hu.out], attrG_none _ _⟩, ?_⟩
  exact ((((HB2.out.2.2.setCell (by simp) _).setCell (by simp) _).setCell (by simp) _).setCell (by simp) _).setCell (by simp) _


/-- a change of an attribute's copy at B: the number of its error, and what the copy is behind it. -/
structure Changer2 (f : Nat) (kv1 kv2 : Value) (E : Nat → Addr) (c : Nat) (A A' : At) (B : Nat) (w : World) : Prop where
  enters : ∀ args w, (callFunc f args).run Tryz.prog w = .ok (.enter f args) w
  says : ∀ W, Below B w W → AP W B A → Calls Tryz.prog f #[.pointer (some ⟨B, 0, none⟩), kv1, kv2] W fun r W' => r = .returned (ev E c) ∧ Below B W W' ∧ W'.heap[B + 1]? = W.heap[B + 1]? ∧ (c = 0 → AR W' B A')
set_option linter.unusedVariables false in
set_option maxRecDepth 100000 in
set_option maxHeartbeats 4000000 in
theorem changed_bad2 (v : Value) (A : At) (f : Nat) (kv1 kv2 : Value) (E : Nat → Addr) (m : Int) (w : World) (hE : AttrEnv w E m) (h : AttrK w v A) (h1 : A.path.length ≤ 1000000) (h2 : A.tags.length ≤ 1000000) (hf : 0 < (faultA A).1) :
    Calls Tryz.prog 36 #[v, .func (.func f) #[] #[kv1, kv2]] w fun r w' => (∃ v', r = .returned (.tuple #[v', ev E (faultA A).1.toNat]) ∧ AttrG w' v' noneA w.heap.size) ∧ Below w.heap.size w w' := by
  have HC : Hid (∀ w', Below w.heap.size w w' → Calls _ _ _ _ _) := fun w' hb => aCheck_any v A E m w' (hE.below hb) (h.attr.below hb) h1 h2
  have HBA : Hid (∀ v c d w', Below w.heap.size w w' → IsErr w' E v c d → 0 < c → Calls _ _ _ _ _) := fun v c d w' hb he hc => bare_any v c d E m w' (hE.below hb) he hc
  obtain ⟨c, hc⟩ : ∃ c, Hid ((faultA A).1.toNat = c) := ⟨_, show _ = _ from rfl⟩
  obtain ⟨d, hd⟩ : ∃ c, Hid ((faultA A).2 = c) := ⟨_, show _ = _ from rfl⟩
  rw [show (faultA A).1.toNat = c from hc.out, show (faultA A).2 = d from hd.out] at HC
  rw [show (faultA A).1.toNat = c from hc.out]
  have hpos : 0 < c := by rw [← hc.out]; omega
  obtain ⟨p, cp, q, cq, rfl, -, -, -, -⟩ := h
  obtain ⟨P, f0, n, o, T⟩ := A
  simp only at *
  clear hf hE hc hd
  go_enter Tryz.func36, Tryz.ntmps36
  go_wp2_with fail
  refine (HC.out _ (below_two _ _ _)).mono ?_
  rintro e w1 ⟨⟨v1, rfl, hv1⟩, hb1⟩
  have hx := (ax_start w _ _).on hb1
  obtain ⟨HB1⟩ : Nonempty (Hid (AX w w1 w.heap.size _ _)) := ⟨hx⟩
  obtain ⟨HV⟩ : Nonempty (Hid (IsErr w1 E v1 c d)) := ⟨hv1⟩
  rcases isErr_cases hv1 with ⟨rfl, -⟩ | ⟨-, t, a, rfl⟩
  · omega
  obtain ⟨HBC⟩ : Nonempty (Hid (Calls _ _ _ _ _)) := ⟨HBA.out _ c d w1 hx.2.2 hv1 hpos⟩
  obtain ⟨u, hu⟩ : ∃ u, Hid (ev E c = u) := ⟨_, show _ = _ from rfl⟩
  rw [show ev E c = u from hu.out] at HBC
  clear hb1 hv1 HC hx
  go_wp2_with fail
  refine HBC.out.mono ?_
  rintro e w2 ⟨rfl, hb2⟩
  have hx := HB1.out.on hb2
  obtain ⟨HB2⟩ : Nonempty (Hid (AX w w2 w.heap.size _ _)) := ⟨hx⟩
  obtain ⟨r0, r1, r2, r3, r4⟩ := hx.res
  have y0 := (hx.soft 0).2
  have y1 := (hx.soft 1).2
  have y2 := (hx.soft 2).2
  have y3 := (hx.soft 3).2
  have y4 := (hx.soft 4).2
  clear hb2 hx HBC
  go_wp2_with fail
  refine bodyPost_ret (v := .tuple #[.agg #[.slice none 0 0, .int .i64 0, .int .i64 0, .int .i64 0, .slice none 0 0], u]) (by simp [results, Tryz.results36, go_sem, r0, r1, r2, r3, r4]) rfl ⟨⟨_, by rw [hu.out], attrG_none _ _⟩, ?_⟩
  exact ((((HB2.out.2.2.setCell (by simp) _).setCell (by simp) _).setCell (by simp) _).setCell (by simp) _).setCell (by simp) _

end Go.Proofs.YtkebcfjofeoehaaGreatDoor
