/-
  A frame: all but some blocks stands.
  Package attr's changed: what it returns, at whatever change of one's own copy.
  Cells laid into a row: what stands there then.
  slices.Repeat of one whole number: what it returns.
-/
import Derived.Test.YtbfdgflbflajdaaGreatDoorGB
import Derived.Test.YtbfdgflbflajdaaGreatDoorGM
import Derived.Deep.Cut
import Derived.Deep.CutRange
import Derived.Laws.IdiomCopy
import Derived.Laws.MakeOwn
import Derived.Deep.RegionLaw
namespace Go.Proofs.YtbfdgflbflajdaaGreatDoor
open Go.RowKit

/-- of what was there all stands, but for the blocks F. -/
structure Kept (F : List Nat) (w w' : World) : Prop where
  os : w'.os = w.os
  tape : w'.tape = w.tape
  output : w'.output = w.output
  size : w.heap.size ≤ w'.heap.size
  block : ∀ k, k < w.heap.size → k ∉ F → w'.heap[k]? = w.heap[k]?
theorem Kept.refl (F : List Nat) (w : World) : Kept F w w := ⟨rfl, rfl, rfl, Nat.le_refl _, fun _ _ _ => rfl⟩
theorem Kept.trans {F G : List Nat} {a b c : World} (h : Kept F a b) (k : Kept G b c) (hs : ∀ x ∈ G, x ∈ F ∨ a.heap.size ≤ x) : Kept F a c :=
  ⟨k.os.trans h.os, k.tape.trans h.tape, k.output.trans h.output, Nat.le_trans h.size k.size, fun i hi hn => (k.block i (Nat.lt_of_lt_of_le hi h.size) fun hg => by
    rcases hs i hg with hg | hg
    · exact hn hg
    · omega).trans (h.block i hi hn)⟩
theorem Kept.mono {F G : List Nat} {a b : World} (h : Kept F a b) (hs : ∀ x ∈ F, x ∈ G ∨ a.heap.size ≤ x) : Kept G a b :=
  (Kept.refl G a).trans h hs
theorem Kept.of_below {F : List Nat} {a b : World} (h : Below a.heap.size a b) : Kept F a b := ⟨h.os, h.tape, h.output, h.size, fun k hk _ => h.block k hk⟩
theorem Kept.below {F : List Nat} {a b : World} {B : Nat} (h : Kept F a b) (hB : B ≤ a.heap.size) (hF : ∀ x ∈ F, B ≤ x) : Below B a b :=
  ⟨h.os, h.tape, h.output, h.size, fun k hk => h.block k (by omega) fun hm => by have := hF k hm; omega⟩
theorem Kept.alloc {F : List Nat} {a w : World} (h : Kept F a w) (o : Obj) : Kept F a (w.alloc o) :=
  h.trans (G := []) (Kept.of_below (below_alloc w o)) (by simp)
theorem Kept.drew {F : List Nat} {a w : World} (h : Kept F a w) : Kept F a w.drew := ⟨h.os, h.tape, h.output, h.size, h.block⟩
theorem Kept.setCell {F : List Nat} {a w : World} (h : Kept F a w) {p : Addr} (hp : p.block ∈ F ∨ a.heap.size ≤ p.block) (u : Value) : Kept F a (w.setCell p u) :=
  h.trans (G := [p.block]) ⟨rfl, rfl, rfl, by simp [World.setCell], fun k _ hk => Below.heap_setCell _ _ _ _ (by simpa using hk)⟩ (by simpa using hp)
theorem Kept.cell {F : List Nat} {w w' : World} (h : Kept F w w') {p : Addr} {v : Value} (hc : w.cell? p = some v) (hn : p.block ∉ F) : w'.cell? p = some v := by
  rw [World.cell?_of_block (w := w) (h.block p.block (cell_lt' hc) hn)]; exact hc
theorem Kept.heap {F : List Nat} {w w' : World} (h : Kept F w w') {b : Nat} {o : Obj} (hc : w.heap[b]? = some o) (hn : b ∉ F) : w'.heap[b]? = some o := by
  rw [h.block b (Array.getElem?_eq_some_iff.1 hc).1 hn]; exact hc
end Go.Proofs.YtbfdgflbflajdaaGreatDoor

namespace Go.Proofs.YtbfdgflbflajdaaGreatDoor
open Go.RowKit

theorem own_on {w w' : World} {base : Nat} {e : TypeId} {size : Nat} {v : Value} {n : Nat} {xs : List Value} (h : w.ownsRow base e size v n xs) {B : Nat} (hb : Below B w w') (hB : ∀ g, v.ownBlock = some g → g < B) : w'.ownsRow base e size v n xs := by
  refine ⟨h.1, ?_⟩
  rcases h.2 with h2 | ⟨g, cap, cur, rfl, h3, hg, r⟩
  · exact .inl h2
  · exact .inr ⟨g, cap, cur, rfl, h3, by rw [hb.block g (hB g rfl)]; exact hg, r⟩
theorem aOwn_below {w w' : World} {base : Nat} {e : TypeId} {size : Nat} {v : Value} {n : Nat} {xs : List Value} (h : w.ownsRow base e size v n xs) (hb : Below w.heap.size w w') : w'.ownsRow base e size v n xs := own_on h hb (fun g hg => (h.lt g hg).2)
theorem own_set {w : World} {base : Nat} {e : TypeId} {size : Nat} {v : Value} {n : Nat} {xs : List Value} (h : w.ownsRow base e size v n xs) {B : Nat} (hB : B < base) (k : Nat) (u : Value) : (w.setCell ⟨B, k, none⟩ u).ownsRow base e size v n xs := by
  refine ⟨h.1, ?_⟩
  rcases h.2 with h2 | ⟨g, cap, cur, rfl, h3, hg, r⟩
  · exact .inl h2
  · exact .inr ⟨g, cap, cur, rfl, h3, by rw [Below.heap_setCell _ _ _ _ (by simp; omega)]; exact hg, r⟩
/-- a value that holds an attribute whose rows lie from block N on. -/
def AttrG (w : World) (v : Value) (A : At) (N : Nat) : Prop :=
  ∃ p cp q cq, v = .agg #[.slice p A.path.length cp, .int .i64 A.pref, .int .i64 A.med, .int .i64 A.org, .slice q A.tags.length cq] ∧ Ints w p A.path ∧ Ints w q A.tags ∧ Kind1 p A.path.length cp ∧ Kind1 q A.tags.length cq ∧ (∀ b o, p = some ⟨b, o, none⟩ → N ≤ b) ∧ (∀ b o, q = some ⟨b, o, none⟩ → N ≤ b)
theorem AttrG.attrK {w : World} {v : Value} {A : At} {N : Nat} (h : AttrG w v A N) : AttrK w v A := by
  obtain ⟨p, cp, q, cq, e, h1, h2, h3, h4, -, -⟩ := h
  exact ⟨p, cp, q, cq, e, h1, h2, h3, h4⟩
theorem attrG_none (w : World) (N : Nat) : AttrG w (.agg #[.slice none 0 0, .int .i64 0, .int .i64 0, .int .i64 0, .slice none 0 0]) noneA N :=
  ⟨none, 0, none, 0, rfl, ints_nil _ _, ints_nil _ _, .inl ⟨rfl, rfl, rfl⟩, .inl ⟨rfl, rfl, rfl⟩, fun _ _ e => by simp at e, fun _ _ e => by simp at e⟩
/-- an attribute at C, its rows elsewhere, from L on. -/
def AR (w : World) (L C : Nat) (A : At) : Prop := ∃ p cp q cq, w.heap[C]? = some (.cells #[.slice p A.path.length cp, .int .i64 A.pref, .int .i64 A.med, .int .i64 A.org, .slice q A.tags.length cq] 24 (0, 0)) ∧
  Ints w p A.path ∧ Ints w q A.tags ∧ Kind1 p A.path.length cp ∧ Kind1 q A.tags.length cq ∧ (∀ b o, p = some ⟨b, o, none⟩ → L ≤ b ∧ b ≠ C) ∧ (∀ b o, q = some ⟨b, o, none⟩ → L ≤ b ∧ b ≠ C)
/-- two rows of one's own from L on: a path's, and a set of tags'. -/
def CP (w : World) (L : Nat) (A : At) (p : Option Addr) (cp : Nat) (q : Option Addr) (cq : Nat) : Prop := ∃ S, w.ownsRow L 3 1 (.slice p A.path.length cp) A.path.length (A.path.map intV) ∧ w.ownsRow S 3 1 (.slice q A.tags.length cq) A.tags.length (A.tags.map intV) ∧ L ≤ S ∧ (∀ b o, p = some ⟨b, o, none⟩ → b < S) ∧ S ≤ w.heap.size
theorem cp_parts {w : World} {L : Nat} {A : At} {p : Option Addr} {cp : Nat} {q : Option Addr} {cq : Nat} (h : CP w L A p cp q cq) : Ints w p A.path ∧ Ints w q A.tags ∧ Kind1 p A.path.length cp ∧ Kind1 q A.tags.length cq ∧ (∀ b o, p = some ⟨b, o, none⟩ → L ≤ b ∧ b < w.heap.size) ∧ (∀ b o, q = some ⟨b, o, none⟩ → L ≤ b ∧ b < w.heap.size) := by
  obtain ⟨S, h2, h3, h4, h5, h6⟩ := h
  have l2 := fun g e => (h2.lt g e).2
  have l3 := fun g e => (h3.lt g e).2
  obtain ⟨p', c', e, k1, i1, f1⟩ := own_kind' h2
  obtain ⟨q', d', e', k2, i2, f2⟩ := own_kind' h3
  simp only [Value.slice.injEq, true_and] at e e'
  obtain ⟨rfl, rfl⟩ := e
  obtain ⟨rfl, rfl⟩ := e'
  exact ⟨i1, i2, k1, k2, fun b o e => ⟨f1 b o e, l2 b (by rw [e]; rfl)⟩, fun b o e => ⟨by have := f2 b o e; omega, l3 b (by rw [e]; rfl)⟩⟩
theorem cp_g {w : World} {L : Nat} {A : At} {p : Option Addr} {cp : Nat} {q : Option Addr} {cq : Nat} (h : CP w L A p cp q cq) : AttrG w (.agg #[.slice p A.path.length cp, .int .i64 A.pref, .int .i64 A.med, .int .i64 A.org, .slice q A.tags.length cq]) A L := by
  obtain ⟨i1, i2, k1, k2, n1, n2⟩ := cp_parts h
  exact ⟨p, cp, q, cq, rfl, i1, i2, k1, k2, fun b o e => (n1 b o e).1, fun b o e => (n2 b o e).1⟩
theorem cp_on {w w' : World} {L : Nat} {A : At} {p : Option Addr} {cp : Nat} {q : Option Addr} {cq : Nat} (h : CP w L A p cp q cq) (hb : Below w.heap.size w w') : CP w' L A p cp q cq := by
  obtain ⟨S, s1, s2, s3, s4, s5⟩ := h
  exact ⟨S, aOwn_below s1 hb, aOwn_below s2 hb, s3, s4, Nat.le_trans s5 hb.size⟩
theorem own_mono {w : World} {base low : Nat} {e : TypeId} {size : Nat} {v : Value} {n : Nat} {xs : List Value} (h : w.ownsRow base e size v n xs) (hl : low ≤ base) : w.ownsRow low e size v n xs :=
  ⟨h.1, h.2.imp id fun ⟨g, cap, cur, h1, h2, h3⟩ => ⟨g, cap, cur, h1, Nat.le_trans hl h2, h3⟩⟩
/-- an attribute at C with rows of its own, from L on and elsewhere. -/
def AP (w : World) (L C : Nat) (A : At) : Prop := ∃ p cp q cq, w.heap[C]? = some (.cells #[.slice p A.path.length cp, .int .i64 A.pref, .int .i64 A.med, .int .i64 A.org, .slice q A.tags.length cq] 24 (0, 0)) ∧ CP w L A p cp q cq ∧ (∀ b o, p = some ⟨b, o, none⟩ → b ≠ C) ∧ (∀ b o, q = some ⟨b, o, none⟩ → b ≠ C) ∧ L ≤ C
theorem ap_ar {w : World} {L C : Nat} {A : At} (h : AP w L C A) : AR w L C A := by
  obtain ⟨p, cp, q, cq, h1, h2, h3, h4, h5⟩ := h
  obtain ⟨i1, i2, k1, k2, n1, n2⟩ := cp_parts h2
  exact ⟨p, cp, q, cq, h1, i1, i2, k1, k2, fun b o e => ⟨(n1 b o e).1, h3 b o e⟩, fun b o e => ⟨(n2 b o e).1, h4 b o e⟩⟩
theorem Ints.setNe {w : World} {p : Option Addr} {L : List Int} (h : Ints w p L) {B : Nat} (hne : ∀ b o, p = some ⟨b, o, none⟩ → b ≠ B) (k : Nat) (u : Value) : Ints (w.setCell ⟨B, k, none⟩ u) p L := fun i hi => by
  obtain ⟨b, o, e, c⟩ := h i hi
  have := hne b o e
  exact ⟨b, o, e, by rw [World.cell?_setCell_other _ _ _ _ (by intro he; simp at he <;> omega)]; exact c⟩
theorem setFive {w w1 : World} {B R : Nat} (hb : Below B w w1) (hR : B ≤ R) (a b c d e : Value) : Below B w (((((w1.setCell ⟨R, 0, none⟩ a).setCell ⟨R, 1, none⟩ b).setCell ⟨R, 2, none⟩ c).setCell ⟨R, 3, none⟩ d).setCell ⟨R, 4, none⟩ e) :=
  ((((hb.setCell (p := ⟨R, 0, none⟩) hR _).setCell (p := ⟨R, 1, none⟩) hR _).setCell (p := ⟨R, 2, none⟩) hR _).setCell (p := ⟨R, 3, none⟩) hR _).setCell (p := ⟨R, 4, none⟩) hR _
theorem own_five {w : World} {base : Nat} {e : TypeId} {size : Nat} {v : Value} {n : Nat} {xs : List Value} (h : w.ownsRow base e size v n xs) {B : Nat} (hB : B < base) (a b c d f : Value) : (((((w.setCell ⟨B, 0, none⟩ a).setCell ⟨B, 1, none⟩ b).setCell ⟨B, 2, none⟩ c).setCell ⟨B, 3, none⟩ d).setCell ⟨B, 4, none⟩ f).ownsRow base e size v n xs :=
  own_set (own_set (own_set (own_set (own_set h hB _ _) hB _ _) hB _ _) hB _ _) hB _ _

set_option linter.unusedSimpArgs false in
set_option linter.unusedVariables false in
set_option maxRecDepth 100000 in
set_option maxHeartbeats 4000000 in
theorem copy_any (v : Value) (A : At) (w : World) (h : AttrK w v A) (h1 : A.path.length ≤ 1000000) (h2 : A.tags.length ≤ 1000000) :
    Calls Tryz.prog 83 #[v] w fun r w' => (∃ p1 c1 p2 c2, r = .returned (.agg #[.slice p1 A.path.length c1, .int .i64 A.pref, .int .i64 A.med, .int .i64 A.org, .slice p2 A.tags.length c2]) ∧ CP w' w.heap.size A p1 c1 p2 c2) ∧ Below w.heap.size w w' := by
  obtain ⟨p, cp, q, cq, rfl, i1, i2, k1, k2⟩ := h
  have HCP : Hid (∀ w', Below w.heap.size w w' → Calls _ _ _ _ _) := fun w' hb => clone_any p A.path cp w' (i1.below hb) k1 h1
  have HCT : Hid (∀ w', Below w.heap.size w w' → Calls _ _ _ _ _) := fun w' hb => clone_any q A.tags cq w' (i2.below hb) k2 h2
  obtain ⟨B, hB⟩ : ∃ B, Hid (w.heap.size = B) := ⟨_, show _ = _ from rfl⟩
  obtain ⟨P, f0, n, o, T⟩ := A
  simp only at *
  clear i1 i2 k1 k2 h1 h2
  go_enter Tryz.func83, Tryz.ntmps83
  go_upto_region 1 with fail
  obtain ⟨HA0⟩ : Nonempty (Hid (AX w ((w.alloc (.cells #[.slice p P.length cp, .int .i64 f0, .int .i64 n, .int .i64 o, .slice q T.length cq] 24)).alloc (.cells #[.slice none 0 0, .int .i64 0, .int .i64 0, .int .i64 0, .slice none 0 0] 24)).drew w.heap.size _ _)) := ⟨(ax_start w _ _).on (Below.refl _ _).drew⟩
  obtain ⟨x0, hx0⟩ : ∃ x, Hid (((w.alloc (.cells #[.slice p P.length cp, .int .i64 f0, .int .i64 n, .int .i64 o, .slice q T.length cq] 24)).alloc (.cells #[.slice none 0 0, .int .i64 0, .int .i64 0, .int .i64 0, .slice none 0 0] 24)) = x) := ⟨_, show _ = _ from rfl⟩
  rw [show ((w.alloc (.cells #[.slice p P.length cp, .int .i64 f0, .int .i64 n, .int .i64 o, .slice q T.length cq] 24)).alloc (.cells #[.slice none 0 0, .int .i64 0, .int .i64 0, .int .i64 0, .slice none 0 0] 24)) = x0 from hx0.out] at HA0 ⊢
  rw [show w.heap.size = B from hB.out] at HA0 HCP HCT ⊢
  clear hx0
  go_cut [] from 3 (fun w' => ∃ (wx : World) (p1 : Option Addr) (c1 : Nat) (p2 : Option Addr) (c2 : Nat), Hid (AX w wx B #[.slice p1 P.length c1, .int .i64 f0, .int .i64 n, .int .i64 o, .slice p2 T.length c2] #[.slice none 0 0, .int .i64 0, .int .i64 0, .int .i64 0, .slice none 0 0] ∧ CP wx (B + 2) ⟨P, f0, n, o, T⟩ p1 c1 p2 c2) ∧ wx = w')
  case first J0 K0 hJ0 hK0 =>
    refine wp_region_noPanic ?_
    refine wp_region_held_drew (S := (fun _ => True)) (by kernel_rfl) ?_ (fun hHeld => ?_)
    · trivial
    refine wpAnyH_take (i := 0) (v := ?_) rfl (by kernel_rfl) (by kernel_rfl) (by kernel_rfl) (fun _ _ _ h => h) (Or.inl ⟨by rfl, ?_⟩) (by assumption) ?_
    rotate_left
    · (intro w hSw; (try dsimp only at hSw); go_simp; try (with_reducible rfl))
    try simp only [Act.put, List.setIfInBounds_toArray, List.set_cons_zero, List.set_cons_succ, List.getElem_toArray, List.getElem_cons_zero, List.getElem_cons_succ]
    refine wpAnyH_take (i := 3) (v := ?_) rfl (by kernel_rfl) (by kernel_rfl) (by kernel_rfl) (fun _ _ _ h => h) (Or.inl ⟨by rfl, ?_⟩) (by assumption) ?_
    rotate_left
    · (intro w hSw; (try dsimp only at hSw); go_simp; try (with_reducible rfl))
    try simp only [Act.put, List.setIfInBounds_toArray, List.set_cons_zero, List.set_cons_succ, List.getElem_toArray, List.getElem_cons_zero, List.getElem_cons_succ]
    refine wpAnyH_ready (rs := [1, 4]) (by kernel_rfl) (by simp) ?_
    refine (AllReadyH.cons rfl (fun K hK => ?_) (AllReadyH.cons rfl (fun K hK => ?_) AllReadyH.nil))
    · skip
      obtain ⟨a0, a1, a2, a3, a4⟩ := HA0.out.arg
      go_simp
      refine hK.out _ _ trivial (fun hHeld => ?_)
      clear hK K a0 a1 a2 a3 a4
      try simp only [Act.put, List.setIfInBounds_toArray, List.set_cons_zero, List.set_cons_succ, List.getElem_toArray, List.getElem_cons_zero, List.getElem_cons_succ]
      refine wpAnyH_ready (rs := [2, 4]) (by kernel_rfl) (by simp) ?_
      refine (AllReadyH.cons rfl (fun K hK => ?_) (AllReadyH.cons rfl (fun K hK => ?_) AllReadyH.nil))
      · skip
        go_simp
        refine (HCP.out _ HA0.out.2.2).mono ?_
        rintro r x1 ⟨⟨v, rfl, ho⟩, hb⟩
        obtain ⟨p1, c1, rfl, -, -, hf⟩ := own_kind' ho
        obtain ⟨HA1⟩ : Nonempty (Hid (AX w x1 B _ _)) := ⟨HA0.out.on hb⟩
        obtain ⟨HP1⟩ : Nonempty (Hid (World.ownsRow x1 (B + 2) 3 1 (.slice p1 P.length c1) P.length (P.map intV))) := ⟨⟨ho.1, ho.2.imp id fun ⟨g, cap, cur, h1, h2, h3⟩ => ⟨g, cap, cur, h1, Nat.le_trans (Array.getElem?_eq_some_iff.1 HA0.out.2.1).1 h2, h3⟩⟩⟩
        refine hK.out _ _ trivial (fun hHeld => ?_)
        clear hK K ho hb hf
        try simp only [Act.put, List.setIfInBounds_toArray, List.set_cons_zero, List.set_cons_succ, List.getElem_toArray, List.getElem_cons_zero, List.getElem_cons_succ]
        refine wpAnyH_ready (rs := [4]) (by kernel_rfl) (by simp) ?_
        refine AllReadyH.cons rfl (fun K hK => ?_) AllReadyH.nil
        obtain ⟨a0, a1, a2, a3, a4⟩ := HA1.out.arg
        go_simp
        refine hK.out _ _ trivial (fun hHeld => ?_)
        clear hK K a0 a1 a2 a3 a4
        try simp only [Act.put, List.setIfInBounds_toArray, List.set_cons_zero, List.set_cons_succ, List.getElem_toArray, List.getElem_cons_zero, List.getElem_cons_succ]
        refine wpAnyH_take (i := 6) (v := ?_) rfl (by kernel_rfl) (by kernel_rfl) (by kernel_rfl) (fun _ _ _ h => h) (Or.inl ⟨by rfl, ?_⟩) (by assumption) ?_
        rotate_left
        · (intro w hSw; (try dsimp only at hSw); go_simp; try (with_reducible rfl))
        try simp only [Act.put, List.setIfInBounds_toArray, List.set_cons_zero, List.set_cons_succ, List.getElem_toArray, List.getElem_cons_zero, List.getElem_cons_succ]
        refine wpAnyH_ready (rs := [5]) (by kernel_rfl) (by simp) ?_
        refine AllReadyH.cons rfl (fun K hK => ?_) AllReadyH.nil
        go_simp
        refine (HCT.out _ HA1.out.2.2).mono ?_
        rintro r x2 ⟨⟨v, rfl, ho⟩, hb⟩
        obtain ⟨p2, c2, rfl, -, -, hf⟩ := own_kind' ho
        obtain ⟨HA2⟩ : Nonempty (Hid (AX w x2 B _ _)) := ⟨HA1.out.on hb⟩
        obtain ⟨HP2⟩ : Nonempty (Hid (World.ownsRow x2 (B + 2) 3 1 (.slice p1 P.length c1) P.length (P.map intV))) := ⟨aOwn_below HP1.out hb⟩
        obtain ⟨HT2⟩ : Nonempty (Hid (∃ S, World.ownsRow x2 S 3 1 (.slice p2 T.length c2) T.length (T.map intV) ∧ B + 2 ≤ S ∧ (∀ b o, p1 = some ⟨b, o, none⟩ → b < S) ∧ S ≤ x2.heap.size)) := ⟨⟨_, ho, (Array.getElem?_eq_some_iff.1 HA1.out.2.1).1, fun b o e => (HP1.out.lt b (by rw [e]; rfl)).2, hb.size⟩⟩
        refine hK.out _ _ trivial (fun hHeld => ?_)
        clear hK K ho hb hf
        try simp only [Act.put, List.setIfInBounds_toArray, List.set_cons_zero, List.set_cons_succ, List.getElem_toArray, List.getElem_cons_zero, List.getElem_cons_succ]
        refine wpAnyH_ready (rs := [7]) (by kernel_rfl) (by simp) ?_
        refine AllReadyH.cons rfl (fun K hK => ?_) AllReadyH.nil
        obtain ⟨a0, a1, a2, a3, a4⟩ := HA2.out.arg
        have z0 := (HA2.out.soft 0).1
        go_simp
        obtain ⟨x3, hx3⟩ : ∃ x, Hid (x2.setCell ⟨B, 0, none⟩ (.slice p1 P.length c1) = x) := ⟨_, show _ = _ from rfl⟩
        rw [show x2.setCell ⟨B, 0, none⟩ (.slice p1 P.length c1) = x3 from hx3.out]
        obtain ⟨HA3⟩ : Nonempty (Hid (AX w x3 B _ _)) := ⟨by rw [← hx3.out]; exact HA2.out.set 0 (.slice p1 P.length c1)⟩
        obtain ⟨HP3⟩ : Nonempty (Hid (World.ownsRow x3 (B + 2) 3 1 (.slice p1 P.length c1) P.length (P.map intV))) := ⟨by rw [← hx3.out]; exact own_set HP2.out (by omega) _ _⟩
        obtain ⟨HT3⟩ : Nonempty (Hid (∃ S, World.ownsRow x3 S 3 1 (.slice p2 T.length c2) T.length (T.map intV) ∧ B + 2 ≤ S ∧ (∀ b o, p1 = some ⟨b, o, none⟩ → b < S) ∧ S ≤ x3.heap.size)) := ⟨by
          obtain ⟨S, s1, s2, s3, s4⟩ := HT2.out
          rw [← hx3.out]; exact ⟨S, own_set s1 (by omega) _ _, s2, s3, by simpa [World.setCell] using s4⟩⟩
        refine hK.out _ _ trivial (fun hHeld => ?_)
        clear hK K a0 a1 a2 a3 a4 z0
        try simp only [Act.put, List.setIfInBounds_toArray, List.set_cons_zero, List.set_cons_succ, List.getElem_toArray, List.getElem_cons_zero, List.getElem_cons_succ]
        refine wpAnyH_take (i := 8) (v := ?_) rfl (by kernel_rfl) (by kernel_rfl) (by kernel_rfl) (fun _ _ _ h => h) (Or.inl ⟨by rfl, ?_⟩) (by assumption) ?_
        rotate_left
        · (intro w hSw; (try dsimp only at hSw); go_simp; try (with_reducible rfl))
        try simp only [Act.put, List.setIfInBounds_toArray, List.set_cons_zero, List.set_cons_succ, List.getElem_toArray, List.getElem_cons_zero, List.getElem_cons_succ]
        refine wpAnyH_ready (rs := [9]) (by kernel_rfl) (by simp) ?_
        refine AllReadyH.cons rfl (fun K hK => ?_) AllReadyH.nil
        obtain ⟨a0, a1, a2, a3, a4⟩ := HA3.out.arg
        have z4 := (HA3.out.soft 4).1
        go_simp
        obtain ⟨x4, hx4⟩ : ∃ x, Hid (x3.setCell ⟨B, 4, none⟩ (.slice p2 T.length c2) = x) := ⟨_, show _ = _ from rfl⟩
        rw [show x3.setCell ⟨B, 4, none⟩ (.slice p2 T.length c2) = x4 from hx4.out]
        obtain ⟨HA4⟩ : Nonempty (Hid (AX w x4 B _ _)) := ⟨by rw [← hx4.out]; exact HA3.out.set 4 (.slice p2 T.length c2)⟩
        obtain ⟨HP4⟩ : Nonempty (Hid (World.ownsRow x4 (B + 2) 3 1 (.slice p1 P.length c1) P.length (P.map intV))) := ⟨by rw [← hx4.out]; exact own_set HP3.out (by omega) _ _⟩
        obtain ⟨HT4⟩ : Nonempty (Hid (∃ S, World.ownsRow x4 S 3 1 (.slice p2 T.length c2) T.length (T.map intV) ∧ B + 2 ≤ S ∧ (∀ b o, p1 = some ⟨b, o, none⟩ → b < S) ∧ S ≤ x4.heap.size)) := ⟨by
          obtain ⟨S, s1, s2, s3, s4⟩ := HT3.out
          rw [← hx4.out]; exact ⟨S, own_set s1 (by omega) _ _, s2, s3, by simpa [World.setCell] using s4⟩⟩
        refine hK.out _ _ trivial (fun hHeld => ?_)
        clear hK K a0 a1 a2 a3 a4 z4
        try simp only [Act.put, List.setIfInBounds_toArray, List.set_cons_zero, List.set_cons_succ, List.getElem_toArray, List.getElem_cons_zero, List.getElem_cons_succ]
        refine wpAnyH_done (by kernel_rfl) ?_ _
        refine NoPanic.normal ?_
        show K0 _ _
        obtain ⟨HF⟩ : Nonempty (Hid (AX w x4 B #[.slice p1 P.length c1, .int .i64 f0, .int .i64 n, .int .i64 o, .slice p2 T.length c2] #[.slice none 0 0, .int .i64 0, .int .i64 0, .int .i64 0, .slice none 0 0] ∧ CP x4 (B + 2) ⟨P, f0, n, o, T⟩ p1 c1 p2 c2)) := ⟨by
      obtain ⟨S, s1, s2, s3, s4⟩ := HT4.out
      have hh := HA4.out
      simp only [List.setIfInBounds_toArray, List.set_cons_zero, List.set_cons_succ] at hh
      exact ⟨hh, S, HP4.out, s1, s2, s3, s4⟩⟩
        refine hK0 _ _ (Met.intro (hJ0 _ _ ?_))
        (repeat apply Exists.intro)
        exact ⟨⟨x4, p1, c1, p2, c2, HF, rfl⟩, rfl⟩
      · skip
        obtain ⟨a0, a1, a2, a3, a4⟩ := HA0.out.arg
        go_simp
        refine hK.out _ _ trivial (fun hHeld => ?_)
        clear hK K a0 a1 a2 a3 a4
        try simp only [Act.put, List.setIfInBounds_toArray, List.set_cons_zero, List.set_cons_succ, List.getElem_toArray, List.getElem_cons_zero, List.getElem_cons_succ]
        refine wpAnyH_ready (rs := [2]) (by kernel_rfl) (by simp) ?_
        refine AllReadyH.cons rfl (fun K hK => ?_) AllReadyH.nil
        go_simp
        refine (HCP.out _ HA0.out.2.2).mono ?_
        rintro r x1 ⟨⟨v, rfl, ho⟩, hb⟩
        obtain ⟨p1, c1, rfl, -, -, hf⟩ := own_kind' ho
        obtain ⟨HA1⟩ : Nonempty (Hid (AX w x1 B _ _)) := ⟨HA0.out.on hb⟩
        obtain ⟨HP1⟩ : Nonempty (Hid (World.ownsRow x1 (B + 2) 3 1 (.slice p1 P.length c1) P.length (P.map intV))) := ⟨⟨ho.1, ho.2.imp id fun ⟨g, cap, cur, h1, h2, h3⟩ => ⟨g, cap, cur, h1, Nat.le_trans (Array.getElem?_eq_some_iff.1 HA0.out.2.1).1 h2, h3⟩⟩⟩
        refine hK.out _ _ trivial (fun hHeld => ?_)
        clear hK K ho hb hf
        try simp only [Act.put, List.setIfInBounds_toArray, List.set_cons_zero, List.set_cons_succ, List.getElem_toArray, List.getElem_cons_zero, List.getElem_cons_succ]
        refine wpAnyH_take (i := 6) (v := ?_) rfl (by kernel_rfl) (by kernel_rfl) (by kernel_rfl) (fun _ _ _ h => h) (Or.inl ⟨by rfl, ?_⟩) (by assumption) ?_
        rotate_left
        · (intro w hSw; (try dsimp only at hSw); go_simp; try (with_reducible rfl))
        try simp only [Act.put, List.setIfInBounds_toArray, List.set_cons_zero, List.set_cons_succ, List.getElem_toArray, List.getElem_cons_zero, List.getElem_cons_succ]
        refine wpAnyH_ready (rs := [5]) (by kernel_rfl) (by simp) ?_
        refine AllReadyH.cons rfl (fun K hK => ?_) AllReadyH.nil
        go_simp
        refine (HCT.out _ HA1.out.2.2).mono ?_
        rintro r x2 ⟨⟨v, rfl, ho⟩, hb⟩
        obtain ⟨p2, c2, rfl, -, -, hf⟩ := own_kind' ho
        obtain ⟨HA2⟩ : Nonempty (Hid (AX w x2 B _ _)) := ⟨HA1.out.on hb⟩
        obtain ⟨HP2⟩ : Nonempty (Hid (World.ownsRow x2 (B + 2) 3 1 (.slice p1 P.length c1) P.length (P.map intV))) := ⟨aOwn_below HP1.out hb⟩
        obtain ⟨HT2⟩ : Nonempty (Hid (∃ S, World.ownsRow x2 S 3 1 (.slice p2 T.length c2) T.length (T.map intV) ∧ B + 2 ≤ S ∧ (∀ b o, p1 = some ⟨b, o, none⟩ → b < S) ∧ S ≤ x2.heap.size)) := ⟨⟨_, ho, (Array.getElem?_eq_some_iff.1 HA1.out.2.1).1, fun b o e => (HP1.out.lt b (by rw [e]; rfl)).2, hb.size⟩⟩
        refine hK.out _ _ trivial (fun hHeld => ?_)
        clear hK K ho hb hf
        try simp only [Act.put, List.setIfInBounds_toArray, List.set_cons_zero, List.set_cons_succ, List.getElem_toArray, List.getElem_cons_zero, List.getElem_cons_succ]
        refine wpAnyH_ready (rs := [7]) (by kernel_rfl) (by simp) ?_
        refine AllReadyH.cons rfl (fun K hK => ?_) AllReadyH.nil
        obtain ⟨a0, a1, a2, a3, a4⟩ := HA2.out.arg
        have z0 := (HA2.out.soft 0).1
        go_simp
        obtain ⟨x3, hx3⟩ : ∃ x, Hid (x2.setCell ⟨B, 0, none⟩ (.slice p1 P.length c1) = x) := ⟨_, show _ = _ from rfl⟩
        rw [show x2.setCell ⟨B, 0, none⟩ (.slice p1 P.length c1) = x3 from hx3.out]
        obtain ⟨HA3⟩ : Nonempty (Hid (AX w x3 B _ _)) := ⟨by rw [← hx3.out]; exact HA2.out.set 0 (.slice p1 P.length c1)⟩
        obtain ⟨HP3⟩ : Nonempty (Hid (World.ownsRow x3 (B + 2) 3 1 (.slice p1 P.length c1) P.length (P.map intV))) := ⟨by rw [← hx3.out]; exact own_set HP2.out (by omega) _ _⟩
        obtain ⟨HT3⟩ : Nonempty (Hid (∃ S, World.ownsRow x3 S 3 1 (.slice p2 T.length c2) T.length (T.map intV) ∧ B + 2 ≤ S ∧ (∀ b o, p1 = some ⟨b, o, none⟩ → b < S) ∧ S ≤ x3.heap.size)) := ⟨by
          obtain ⟨S, s1, s2, s3, s4⟩ := HT2.out
          rw [← hx3.out]; exact ⟨S, own_set s1 (by omega) _ _, s2, s3, by simpa [World.setCell] using s4⟩⟩
        refine hK.out _ _ trivial (fun hHeld => ?_)
        clear hK K a0 a1 a2 a3 a4 z0
        try simp only [Act.put, List.setIfInBounds_toArray, List.set_cons_zero, List.set_cons_succ, List.getElem_toArray, List.getElem_cons_zero, List.getElem_cons_succ]
        refine wpAnyH_take (i := 8) (v := ?_) rfl (by kernel_rfl) (by kernel_rfl) (by kernel_rfl) (fun _ _ _ h => h) (Or.inl ⟨by rfl, ?_⟩) (by assumption) ?_
        rotate_left
        · (intro w hSw; (try dsimp only at hSw); go_simp; try (with_reducible rfl))
        try simp only [Act.put, List.setIfInBounds_toArray, List.set_cons_zero, List.set_cons_succ, List.getElem_toArray, List.getElem_cons_zero, List.getElem_cons_succ]
        refine wpAnyH_ready (rs := [9]) (by kernel_rfl) (by simp) ?_
        refine AllReadyH.cons rfl (fun K hK => ?_) AllReadyH.nil
        obtain ⟨a0, a1, a2, a3, a4⟩ := HA3.out.arg
        have z4 := (HA3.out.soft 4).1
        go_simp
        obtain ⟨x4, hx4⟩ : ∃ x, Hid (x3.setCell ⟨B, 4, none⟩ (.slice p2 T.length c2) = x) := ⟨_, show _ = _ from rfl⟩
        rw [show x3.setCell ⟨B, 4, none⟩ (.slice p2 T.length c2) = x4 from hx4.out]
        obtain ⟨HA4⟩ : Nonempty (Hid (AX w x4 B _ _)) := ⟨by rw [← hx4.out]; exact HA3.out.set 4 (.slice p2 T.length c2)⟩
        obtain ⟨HP4⟩ : Nonempty (Hid (World.ownsRow x4 (B + 2) 3 1 (.slice p1 P.length c1) P.length (P.map intV))) := ⟨by rw [← hx4.out]; exact own_set HP3.out (by omega) _ _⟩
        obtain ⟨HT4⟩ : Nonempty (Hid (∃ S, World.ownsRow x4 S 3 1 (.slice p2 T.length c2) T.length (T.map intV) ∧ B + 2 ≤ S ∧ (∀ b o, p1 = some ⟨b, o, none⟩ → b < S) ∧ S ≤ x4.heap.size)) := ⟨by
          obtain ⟨S, s1, s2, s3, s4⟩ := HT3.out
          rw [← hx4.out]; exact ⟨S, own_set s1 (by omega) _ _, s2, s3, by simpa [World.setCell] using s4⟩⟩
        refine hK.out _ _ trivial (fun hHeld => ?_)
        clear hK K a0 a1 a2 a3 a4 z4
        try simp only [Act.put, List.setIfInBounds_toArray, List.set_cons_zero, List.set_cons_succ, List.getElem_toArray, List.getElem_cons_zero, List.getElem_cons_succ]
        refine wpAnyH_done (by kernel_rfl) ?_ _
        refine NoPanic.normal ?_
        show K0 _ _
        obtain ⟨HF⟩ : Nonempty (Hid (AX w x4 B #[.slice p1 P.length c1, .int .i64 f0, .int .i64 n, .int .i64 o, .slice p2 T.length c2] #[.slice none 0 0, .int .i64 0, .int .i64 0, .int .i64 0, .slice none 0 0] ∧ CP x4 (B + 2) ⟨P, f0, n, o, T⟩ p1 c1 p2 c2)) := ⟨by
      obtain ⟨S, s1, s2, s3, s4⟩ := HT4.out
      have hh := HA4.out
      simp only [List.setIfInBounds_toArray, List.set_cons_zero, List.set_cons_succ] at hh
      exact ⟨hh, S, HP4.out, s1, s2, s3, s4⟩⟩
        refine hK0 _ _ (Met.intro (hJ0 _ _ ?_))
        (repeat apply Exists.intro)
        exact ⟨⟨x4, p1, c1, p2, c2, HF, rfl⟩, rfl⟩
    · skip
      obtain ⟨a0, a1, a2, a3, a4⟩ := HA0.out.arg
      go_simp
      refine hK.out _ _ trivial (fun hHeld => ?_)
      clear hK K a0 a1 a2 a3 a4
      try simp only [Act.put, List.setIfInBounds_toArray, List.set_cons_zero, List.set_cons_succ, List.getElem_toArray, List.getElem_cons_zero, List.getElem_cons_succ]
      refine wpAnyH_ready (rs := [1]) (by kernel_rfl) (by simp) ?_
      refine AllReadyH.cons rfl (fun K hK => ?_) AllReadyH.nil
      obtain ⟨a0, a1, a2, a3, a4⟩ := HA0.out.arg
      go_simp
      refine hK.out _ _ trivial (fun hHeld => ?_)
      clear hK K a0 a1 a2 a3 a4
      try simp only [Act.put, List.setIfInBounds_toArray, List.set_cons_zero, List.set_cons_succ, List.getElem_toArray, List.getElem_cons_zero, List.getElem_cons_succ]
      refine wpAnyH_ready (rs := [2]) (by kernel_rfl) (by simp) ?_
      refine AllReadyH.cons rfl (fun K hK => ?_) AllReadyH.nil
      go_simp
      refine (HCP.out _ HA0.out.2.2).mono ?_
      rintro r x1 ⟨⟨v, rfl, ho⟩, hb⟩
      obtain ⟨p1, c1, rfl, -, -, hf⟩ := own_kind' ho
      obtain ⟨HA1⟩ : Nonempty (Hid (AX w x1 B _ _)) := ⟨HA0.out.on hb⟩
      obtain ⟨HP1⟩ : Nonempty (Hid (World.ownsRow x1 (B + 2) 3 1 (.slice p1 P.length c1) P.length (P.map intV))) := ⟨⟨ho.1, ho.2.imp id fun ⟨g, cap, cur, h1, h2, h3⟩ => ⟨g, cap, cur, h1, Nat.le_trans (Array.getElem?_eq_some_iff.1 HA0.out.2.1).1 h2, h3⟩⟩⟩
      refine hK.out _ _ trivial (fun hHeld => ?_)
      clear hK K ho hb hf
      try simp only [Act.put, List.setIfInBounds_toArray, List.set_cons_zero, List.set_cons_succ, List.getElem_toArray, List.getElem_cons_zero, List.getElem_cons_succ]
      refine wpAnyH_take (i := 6) (v := ?_) rfl (by kernel_rfl) (by kernel_rfl) (by kernel_rfl) (fun _ _ _ h => h) (Or.inl ⟨by rfl, ?_⟩) (by assumption) ?_
      rotate_left
      · (intro w hSw; (try dsimp only at hSw); go_simp; try (with_reducible rfl))
      try simp only [Act.put, List.setIfInBounds_toArray, List.set_cons_zero, List.set_cons_succ, List.getElem_toArray, List.getElem_cons_zero, List.getElem_cons_succ]
      refine wpAnyH_ready (rs := [5]) (by kernel_rfl) (by simp) ?_
      refine AllReadyH.cons rfl (fun K hK => ?_) AllReadyH.nil
      go_simp
      refine (HCT.out _ HA1.out.2.2).mono ?_
      rintro r x2 ⟨⟨v, rfl, ho⟩, hb⟩
      obtain ⟨p2, c2, rfl, -, -, hf⟩ := own_kind' ho
      obtain ⟨HA2⟩ : Nonempty (Hid (AX w x2 B _ _)) := ⟨HA1.out.on hb⟩
      obtain ⟨HP2⟩ : Nonempty (Hid (World.ownsRow x2 (B + 2) 3 1 (.slice p1 P.length c1) P.length (P.map intV))) := ⟨aOwn_below HP1.out hb⟩
      obtain ⟨HT2⟩ : Nonempty (Hid (∃ S, World.ownsRow x2 S 3 1 (.slice p2 T.length c2) T.length (T.map intV) ∧ B + 2 ≤ S ∧ (∀ b o, p1 = some ⟨b, o, none⟩ → b < S) ∧ S ≤ x2.heap.size)) := ⟨⟨_, ho, (Array.getElem?_eq_some_iff.1 HA1.out.2.1).1, fun b o e => (HP1.out.lt b (by rw [e]; rfl)).2, hb.size⟩⟩
      refine hK.out _ _ trivial (fun hHeld => ?_)
      clear hK K ho hb hf
      try simp only [Act.put, List.setIfInBounds_toArray, List.set_cons_zero, List.set_cons_succ, List.getElem_toArray, List.getElem_cons_zero, List.getElem_cons_succ]
      refine wpAnyH_ready (rs := [7]) (by kernel_rfl) (by simp) ?_
      refine AllReadyH.cons rfl (fun K hK => ?_) AllReadyH.nil
      obtain ⟨a0, a1, a2, a3, a4⟩ := HA2.out.arg
      have z0 := (HA2.out.soft 0).1
      go_simp
      obtain ⟨x3, hx3⟩ : ∃ x, Hid (x2.setCell ⟨B, 0, none⟩ (.slice p1 P.length c1) = x) := ⟨_, show _ = _ from rfl⟩
      rw [show x2.setCell ⟨B, 0, none⟩ (.slice p1 P.length c1) = x3 from hx3.out]
      obtain ⟨HA3⟩ : Nonempty (Hid (AX w x3 B _ _)) := ⟨by rw [← hx3.out]; exact HA2.out.set 0 (.slice p1 P.length c1)⟩
      obtain ⟨HP3⟩ : Nonempty (Hid (World.ownsRow x3 (B + 2) 3 1 (.slice p1 P.length c1) P.length (P.map intV))) := ⟨by rw [← hx3.out]; exact own_set HP2.out (by omega) _ _⟩
      obtain ⟨HT3⟩ : Nonempty (Hid (∃ S, World.ownsRow x3 S 3 1 (.slice p2 T.length c2) T.length (T.map intV) ∧ B + 2 ≤ S ∧ (∀ b o, p1 = some ⟨b, o, none⟩ → b < S) ∧ S ≤ x3.heap.size)) := ⟨by
          obtain ⟨S, s1, s2, s3, s4⟩ := HT2.out
          rw [← hx3.out]; exact ⟨S, own_set s1 (by omega) _ _, s2, s3, by simpa [World.setCell] using s4⟩⟩
      refine hK.out _ _ trivial (fun hHeld => ?_)
      clear hK K a0 a1 a2 a3 a4 z0
      try simp only [Act.put, List.setIfInBounds_toArray, List.set_cons_zero, List.set_cons_succ, List.getElem_toArray, List.getElem_cons_zero, List.getElem_cons_succ]
      refine wpAnyH_take (i := 8) (v := ?_) rfl (by kernel_rfl) (by kernel_rfl) (by kernel_rfl) (fun _ _ _ h => h) (Or.inl ⟨by rfl, ?_⟩) (by assumption) ?_
      rotate_left
      · (intro w hSw; (try dsimp only at hSw); go_simp; try (with_reducible rfl))
      try simp only [Act.put, List.setIfInBounds_toArray, List.set_cons_zero, List.set_cons_succ, List.getElem_toArray, List.getElem_cons_zero, List.getElem_cons_succ]
      refine wpAnyH_ready (rs := [9]) (by kernel_rfl) (by simp) ?_
      refine AllReadyH.cons rfl (fun K hK => ?_) AllReadyH.nil
      obtain ⟨a0, a1, a2, a3, a4⟩ := HA3.out.arg
      have z4 := (HA3.out.soft 4).1
      go_simp
      obtain ⟨x4, hx4⟩ : ∃ x, Hid (x3.setCell ⟨B, 4, none⟩ (.slice p2 T.length c2) = x) := ⟨_, show _ = _ from rfl⟩
      rw [show x3.setCell ⟨B, 4, none⟩ (.slice p2 T.length c2) = x4 from hx4.out]
      obtain ⟨HA4⟩ : Nonempty (Hid (AX w x4 B _ _)) := ⟨by rw [← hx4.out]; exact HA3.out.set 4 (.slice p2 T.length c2)⟩
      obtain ⟨HP4⟩ : Nonempty (Hid (World.ownsRow x4 (B + 2) 3 1 (.slice p1 P.length c1) P.length (P.map intV))) := ⟨by rw [← hx4.out]; exact own_set HP3.out (by omega) _ _⟩
      obtain ⟨HT4⟩ : Nonempty (Hid (∃ S, World.ownsRow x4 S 3 1 (.slice p2 T.length c2) T.length (T.map intV) ∧ B + 2 ≤ S ∧ (∀ b o, p1 = some ⟨b, o, none⟩ → b < S) ∧ S ≤ x4.heap.size)) := ⟨by
          obtain ⟨S, s1, s2, s3, s4⟩ := HT3.out
          rw [← hx4.out]; exact ⟨S, own_set s1 (by omega) _ _, s2, s3, by simpa [World.setCell] using s4⟩⟩
      refine hK.out _ _ trivial (fun hHeld => ?_)
      clear hK K a0 a1 a2 a3 a4 z4
      try simp only [Act.put, List.setIfInBounds_toArray, List.set_cons_zero, List.set_cons_succ, List.getElem_toArray, List.getElem_cons_zero, List.getElem_cons_succ]
      refine wpAnyH_done (by kernel_rfl) ?_ _
      refine NoPanic.normal ?_
      show K0 _ _
      obtain ⟨HF⟩ : Nonempty (Hid (AX w x4 B #[.slice p1 P.length c1, .int .i64 f0, .int .i64 n, .int .i64 o, .slice p2 T.length c2] #[.slice none 0 0, .int .i64 0, .int .i64 0, .int .i64 0, .slice none 0 0] ∧ CP x4 (B + 2) ⟨P, f0, n, o, T⟩ p1 c1 p2 c2)) := ⟨by
      obtain ⟨S, s1, s2, s3, s4⟩ := HT4.out
      have hh := HA4.out
      simp only [List.setIfInBounds_toArray, List.set_cons_zero, List.set_cons_succ] at hh
      exact ⟨hh, S, HP4.out, s1, s2, s3, s4⟩⟩
      refine hK0 _ _ (Met.intro (hJ0 _ _ ?_))
      (repeat apply Exists.intro)
      exact ⟨⟨x4, p1, c1, p2, c2, HF, rfl⟩, rfl⟩
  case rest =>
    obtain ⟨wx, p1, c1, p2, c2, HW, hX⟩ := hcut
    subst hX
    obtain ⟨a0, a1, a2, a3, a4⟩ := HW.out.1.arg
    obtain ⟨r0, r1, r2, r3, r4⟩ := HW.out.1.res
    have y0 := (HW.out.1.soft 0).2
    have y1 := (HW.out.1.soft 1).2
    have y2 := (HW.out.1.soft 2).2
    have y3 := (HW.out.1.soft 3).2
    have y4 := (HW.out.1.soft 4).2
    go_wp2_with fail
    refine bodyPost_ret (v := .agg #[.slice p1 P.length c1, .int .i64 f0, .int .i64 n, .int .i64 o, .slice p2 T.length c2]) (by simp [results, Tryz.results83, go_sem, r0, r1, r2, r3, r4]) rfl ⟨⟨p1, c1, p2, c2, rfl, ?_⟩, ?_⟩
    · obtain ⟨S, s1, s2, s3, s4, s5⟩ := HW.out.2
      refine ⟨S, ?_, own_five s2 (by omega) _ _ _ _ _, by first | omega | (rw [show w.heap.size = B from hB.out]; omega), s4, by simpa [World.setCell] using s5⟩
      have := own_five s1 (B := B + 1) (by omega) (.slice p1 P.length c1) (.int .i64 f0) (.int .i64 n) (.int .i64 o) (.slice p2 T.length c2)
      have hm : B ≤ B + 2 := by omega
      first | exact own_mono this hm | (rw [show w.heap.size = B from hB.out]; exact own_mono this hm)
    · first | exact setFive HW.out.1.2.2 (Nat.le_succ B) _ _ _ _ _ | (rw [show w.heap.size = B from hB.out]; exact setFive HW.out.1.2.2 (Nat.le_succ B) _ _ _ _ _)

/-- a change of an attribute's copy: the number of its error, and what the copy is behind it. -/
structure Changer1 (f : Nat) (kv1 : Value) (E : Nat → Addr) (c : Nat) (A A' : At) (w : World) : Prop where
  enters : ∀ args w, (callFunc f args).run Tryz.prog w = .ok (.enter f args) w
  says : ∀ L C W, w.heap.size ≤ L → Below w.heap.size w W → AP W L C A → Calls Tryz.prog f #[.pointer (some ⟨C, 0, none⟩), kv1] W fun r W' => r = .returned (ev E c) ∧ Below L W W' ∧ (c = 0 → AR W' L C A')
set_option linter.unusedVariables false in
set_option maxRecDepth 100000 in
set_option maxHeartbeats 4000000 in
theorem changed_bad1 (v : Value) (A : At) (f : Nat) (kv1 : Value) (E : Nat → Addr) (m : Int) (w : World) (hE : AttrEnv w E m) (h : AttrK w v A) (h1 : A.path.length ≤ 1000000) (h2 : A.tags.length ≤ 1000000) (hf : 0 < (faultA A).1) :
    Calls Tryz.prog 44 #[v, .func (.func f) #[] #[kv1]] w fun r w' => (∃ v', r = .returned (.tuple #[v', ev E (faultA A).1.toNat]) ∧ AttrG w' v' noneA w.heap.size) ∧ Below w.heap.size w w' := by
  have HC : Hid (∀ w', Below w.heap.size w w' → Calls _ _ _ _ _) := fun w' hb => aCheck_any v A E m w' (hE.below hb) (h.attr.below hb) h1 h2
  have HBA : Hid (∀ v c d w', Below w.heap.size w w' → IsErr w' E v c d → 0 < c → Calls _ _ _ _ _) := fun v c d w' hb he hc => bare_any v c d E m w' (hE.below hb) he hc
  obtain ⟨c, hc⟩ : ∃ c, Hid ((faultA A).1.toNat = c) := ⟨_, show _ = _ from rfl⟩
  obtain ⟨d, hd⟩ : ∃ c, Hid ((faultA A).2 = c) := ⟨_, show _ = _ from rfl⟩
  rw [show (faultA A).1.toNat = c from hc.out, show (faultA A).2 = d from hd.out] at HC
  rw [show (faultA A).1.toNat = c from hc.out]
  have hpos : 0 < c := by rw [← hc.out]; omega
  obtain ⟨p, cp, q, cq, rfl, -, -, -, -⟩ := h
  obtain ⟨P, f0, n, o, T⟩ := A
  simp only at *
  clear hf hE hc hd
  go_enter Tryz.func44, Tryz.ntmps44
  go_wp2_with fail
  refine (HC.out _ (below_two _ _ _)).mono ?_
  rintro e w1 ⟨⟨v1, rfl, hv1⟩, hb1⟩
  have hx := (ax_start w _ _).on hb1
  obtain ⟨HB1⟩ : Nonempty (Hid (AX w w1 w.heap.size _ _)) := ⟨hx⟩
  obtain ⟨HV⟩ : Nonempty (Hid (IsErr w1 E v1 c d)) := ⟨hv1⟩
  rcases isErr_cases hv1 with ⟨rfl, -⟩ | ⟨-, t, a, rfl⟩
  · omega
  obtain ⟨HBC⟩ : Nonempty (Hid (Calls _ _ _ _ _)) := ⟨HBA.out _ c d w1 hx.2.2 hv1 hpos⟩
  obtain ⟨u, hu⟩ : ∃ u, Hid (ev E c = u) := ⟨_, show _ = _ from rfl⟩
  rw [show ev E c = u from hu.out] at HBC
  clear hb1 hv1 HC hx
  go_wp2_with fail
  refine HBC.out.mono ?_
  rintro e w2 ⟨rfl, hb2⟩
  have hx := HB1.out.on hb2
  obtain ⟨HB2⟩ : Nonempty (Hid (AX w w2 w.heap.size _ _)) := ⟨hx⟩
  obtain ⟨r0, r1, r2, r3, r4⟩ := hx.res
  have y0 := (hx.soft 0).2
  have y1 := (hx.soft 1).2
  have y2 := (hx.soft 2).2
  have y3 := (hx.soft 3).2
  have y4 := (hx.soft 4).2
  clear hb2 hx HBC
  go_wp2_with fail
  refine bodyPost_ret (v := .tuple #[.agg #[.slice none 0 0, .int .i64 0, .int .i64 0, .int .i64 0, .slice none 0 0], u]) (by simp [results, Tryz.results44, go_sem, r0, r1, r2, r3, r4]) rfl ⟨⟨_, by rw [hu.out], attrG_none _ _⟩, ?_⟩
  exact ((((HB2.out.2.2.setCell (by simp) _).setCell (by simp) _).setCell (by simp) _).setCell (by simp) _).setCell (by simp) _


/-- a change of an attribute's copy: the number of its error, and what the copy is behind it. -/
structure Changer2 (f : Nat) (kv1 kv2 : Value) (E : Nat → Addr) (c : Nat) (A A' : At) (w : World) : Prop where
  enters : ∀ args w, (callFunc f args).run Tryz.prog w = .ok (.enter f args) w
  says : ∀ L C W, w.heap.size ≤ L → Below w.heap.size w W → AP W L C A → Calls Tryz.prog f #[.pointer (some ⟨C, 0, none⟩), kv1, kv2] W fun r W' => r = .returned (ev E c) ∧ Below L W W' ∧ (c = 0 → AR W' L C A')
set_option linter.unusedVariables false in
set_option maxRecDepth 100000 in
set_option maxHeartbeats 4000000 in
theorem changed_bad2 (v : Value) (A : At) (f : Nat) (kv1 kv2 : Value) (E : Nat → Addr) (m : Int) (w : World) (hE : AttrEnv w E m) (h : AttrK w v A) (h1 : A.path.length ≤ 1000000) (h2 : A.tags.length ≤ 1000000) (hf : 0 < (faultA A).1) :
    Calls Tryz.prog 44 #[v, .func (.func f) #[] #[kv1, kv2]] w fun r w' => (∃ v', r = .returned (.tuple #[v', ev E (faultA A).1.toNat]) ∧ AttrG w' v' noneA w.heap.size) ∧ Below w.heap.size w w' := by
  have HC : Hid (∀ w', Below w.heap.size w w' → Calls _ _ _ _ _) := fun w' hb => aCheck_any v A E m w' (hE.below hb) (h.attr.below hb) h1 h2
  have HBA : Hid (∀ v c d w', Below w.heap.size w w' → IsErr w' E v c d → 0 < c → Calls _ _ _ _ _) := fun v c d w' hb he hc => bare_any v c d E m w' (hE.below hb) he hc
  obtain ⟨c, hc⟩ : ∃ c, Hid ((faultA A).1.toNat = c) := ⟨_, show _ = _ from rfl⟩
  obtain ⟨d, hd⟩ : ∃ c, Hid ((faultA A).2 = c) := ⟨_, show _ = _ from rfl⟩
  rw [show (faultA A).1.toNat = c from hc.out, show (faultA A).2 = d from hd.out] at HC
  rw [show (faultA A).1.toNat = c from hc.out]
  have hpos : 0 < c := by rw [← hc.out]; omega
  obtain ⟨p, cp, q, cq, rfl, -, -, -, -⟩ := h
  obtain ⟨P, f0, n, o, T⟩ := A
  simp only at *
  clear hf hE hc hd
  go_enter Tryz.func44, Tryz.ntmps44
  go_wp2_with fail
  refine (HC.out _ (below_two _ _ _)).mono ?_
  rintro e w1 ⟨⟨v1, rfl, hv1⟩, hb1⟩
  have hx := (ax_start w _ _).on hb1
  obtain ⟨HB1⟩ : Nonempty (Hid (AX w w1 w.heap.size _ _)) := ⟨hx⟩
  obtain ⟨HV⟩ : Nonempty (Hid (IsErr w1 E v1 c d)) := ⟨hv1⟩
  rcases isErr_cases hv1 with ⟨rfl, -⟩ | ⟨-, t, a, rfl⟩
  · omega
  obtain ⟨HBC⟩ : Nonempty (Hid (Calls _ _ _ _ _)) := ⟨HBA.out _ c d w1 hx.2.2 hv1 hpos⟩
  obtain ⟨u, hu⟩ : ∃ u, Hid (ev E c = u) := ⟨_, show _ = _ from rfl⟩
  rw [show ev E c = u from hu.out] at HBC
  clear hb1 hv1 HC hx
  go_wp2_with fail
  refine HBC.out.mono ?_
  rintro e w2 ⟨rfl, hb2⟩
  have hx := HB1.out.on hb2
  obtain ⟨HB2⟩ : Nonempty (Hid (AX w w2 w.heap.size _ _)) := ⟨hx⟩
  obtain ⟨r0, r1, r2, r3, r4⟩ := hx.res
  have y0 := (hx.soft 0).2
  have y1 := (hx.soft 1).2
  have y2 := (hx.soft 2).2
  have y3 := (hx.soft 3).2
  have y4 := (hx.soft 4).2
  clear hb2 hx HBC
  go_wp2_with fail
  refine bodyPost_ret (v := .tuple #[.agg #[.slice none 0 0, .int .i64 0, .int .i64 0, .int .i64 0, .slice none 0 0], u]) (by simp [results, Tryz.results44, go_sem, r0, r1, r2, r3, r4]) rfl ⟨⟨_, by rw [hu.out], attrG_none _ _⟩, ?_⟩
  exact ((((HB2.out.2.2.setCell (by simp) _).setCell (by simp) _).setCell (by simp) _).setCell (by simp) _).setCell (by simp) _

end Go.Proofs.YtbfdgflbflajdaaGreatDoor

namespace Go.Proofs.YtbfdgflbflajdaaGreatDoor
open Go.RowKit

theorem heap_setCells (b : Nat) (t : TypeId) : ∀ (vs : List Value) (o : Nat) (w : World) (cur : Array Value), w.heap[b]? = some (.cells cur t (0, 0)) →
    ∃ cur', (w.setCells b o vs).heap[b]? = some (.cells cur' t (0, 0)) ∧ cur'.size = cur.size ∧ (∀ j (h : j < vs.length), o + j < cur.size → cur'[o + j]? = some vs[j]) ∧ (∀ j, j < o ∨ o + vs.length ≤ j → cur'[j]? = cur[j]?)
  | [], o, w, cur, h => ⟨cur, h, rfl, fun j hj => by simp at hj, fun _ _ => rfl⟩
  | v :: r, o, w, cur, h => by
    have h1 := heap_setCell_same w b o cur _ v h
    obtain ⟨cur', a, b', c, d⟩ := heap_setCells b t r (o + 1) (w.setCell ⟨b, o, none⟩ v) (cur.setIfInBounds o v) h1
    refine ⟨cur', a, by rw [b']; simp, fun j hj hjs => ?_, fun j hj => ?_⟩
    · cases j with
      | zero =>
        rw [d (o + 0) (by omega), Nat.add_zero, Array.getElem?_setIfInBounds_self_of_lt (by omega)]; simp
      | succ j =>
        rw [show o + (j + 1) = o + 1 + j by omega, c j (by simpa using hj) (by simp; omega)]; simp
    · rw [d j (by simp at hj; omega), Array.getElem?_setIfInBounds_ne (by simp at hj; omega)]
theorem below_setCells {B b : Nat} (hB : B ≤ b) : ∀ (vs : List Value) (o : Nat) {w w' : World}, Below B w w' → Below B w (w'.setCells b o vs)
  | [], _, _, _, h => h
  | v :: r, o, _, _, h => below_setCells hB r (o + 1) (h.setCell (p := ⟨b, o, none⟩) hB v)
end Go.Proofs.YtbfdgflbflajdaaGreatDoor

namespace Go.Proofs.YtbfdgflbflajdaaGreatDoor
open Go.RowKit

/-- a row of which the first k are x. -/
def Rep (w wr : World) (G n k : Nat) (x : Int) : Prop := ∃ cur : Array Value, wr.heap[G]? = some (.cells cur 3 (0, 0)) ∧ cur.size = n ∧ (∀ j, j < k → cur[j]? = some (intV x)) ∧ Below G w wr
theorem Rep.copy {w wr : World} {G n k : Nat} {x : Int} (h : Rep w wr G n k x) (m : Nat) (hm : k + m ≤ n) : Rep w (wr.setCells G k (List.replicate m (intV x))) G n (k + m) x := by
  obtain ⟨cur, a, b, c, d⟩ := h
  obtain ⟨cur', a', b', c', d'⟩ := heap_setCells G _ (List.replicate m (intV x)) k wr cur a
  refine ⟨cur', a', by rw [b', b], fun j hj => ?_, below_setCells (Nat.le_refl _) _ _ d⟩
  by_cases hjk : j < k
  · rw [d' j (Or.inl hjk)]; exact c j hjk
  · obtain ⟨i, rfl⟩ : ∃ i, j = k + i := ⟨j - k, by omega⟩
    rw [c' i (by simp; omega) (by omega)]; simp
theorem Rep.some {w wr : World} {G n k : Nat} {x : Int} (h : Rep w wr G n k x) (j : Nat) (hj : j < n) : (wr.cell? ⟨G, j, none⟩).isSome = true ∧ wr.frozen? ⟨G, j, none⟩ = false := by
  obtain ⟨cur, a, b, c, d⟩ := h
  constructor
  · simp [World.cell?, a, b, hj]
  · simp [World.frozen?, a]
theorem Rep.at {w wr : World} {G n k : Nat} {x : Int} (h : Rep w wr G n k x) (j : Nat) (hj : j < k) : wr.cell? ⟨G, j, none⟩ = Option.some (intV x) := by
  obtain ⟨cur, a, b, c, d⟩ := h
  simp [World.cell?, a, c j hj]
theorem rep_mem (n : Nat) (x : Int) : ∀ u ∈ List.replicate n (intV x), u.oneCell' = true := by
  intro u hu
  rw [List.eq_of_mem_replicate hu]; rfl
theorem Rep.drew {w wr : World} {G n k : Nat} {x : Int} (h : Rep w wr G n k x) : Rep w wr.drew G n k x := by
  obtain ⟨cur, a, b, c, d⟩ := h
  exact ⟨cur, a, b, c, d.drew⟩
theorem sizeInt : (Tryz.prog.info? 3).map (·.size) = some 1 := by kernel_rfl
theorem rep_copy0 {w wr : World} {G n : Nat} {x : Int} (h : Rep w wr G n 0 x) (b : Nat) (hx : wr.cell? ⟨b, 0, none⟩ = some (intV x)) (dc : Nat) (ty : TypeId) :
    (Builtin.copy_ #[22, 22] ty #[.slice (some ⟨G, 0, none⟩) n dc, .slice (some ⟨b, 0, none⟩) 1 1]).run Tryz.prog wr = .ok (goInt ((min 1 n : Nat) : Int)) (wr.setCells G 0 (List.replicate (min 1 n) (intV x))) := by
  have := run_copy_cells (P := Tryz.prog) wr 22 22 ty 3 G 0 n dc ⟨b, 0, none⟩ 1 1 (List.replicate (min 1 n) (intV x)) Tryz.underlying22 sizeInt (by simp) (fun j v hj => by
    have hjl := (List.getElem?_eq_some_iff.1 hj).1
    simp at hjl
    have : j = 0 := by omega
    subst this
    obtain ⟨h', e⟩ := List.getElem?_eq_some_iff.1 hj
    rw [List.getElem_replicate] at e
    subst e
    simpa [Addr.add] using hx) (fun j hj => by rw [Nat.zero_add]; exact (h.some j (by simp at hj; omega)).1) (fun j hj => by rw [Nat.zero_add]; exact (h.some j (by simp at hj; omega)).2) (rep_mem _ _)
  rw [List.length_replicate] at this
  exact this
theorem rep_copy1 {w wr : World} {G n k : Nat} {x : Int} (h : Rep w wr G n k x) (hk : k ≤ n) (dc sc : Nat) (ty : TypeId) :
    (Builtin.copy_ #[22, 22] ty #[.slice (some ⟨G, k, none⟩) (n - k) dc, .slice (some ⟨G, 0, none⟩) k sc]).run Tryz.prog wr = .ok (goInt ((min k (n - k) : Nat) : Int)) (wr.setCells G k (List.replicate (min k (n - k)) (intV x))) := by
  have := run_copy_cells (P := Tryz.prog) wr 22 22 ty 3 G k (n - k) dc ⟨G, 0, none⟩ k sc (List.replicate (min k (n - k)) (intV x)) Tryz.underlying22 sizeInt (by simp) (fun j v hj => by
    have hjl := (List.getElem?_eq_some_iff.1 hj).1
    simp at hjl
    obtain ⟨h', e⟩ := List.getElem?_eq_some_iff.1 hj
    rw [List.getElem_replicate] at e
    subst e
    rw [Addr.add_lit, Nat.zero_add]
    exact h.at j (by omega)) (fun j hj => (h.some (k + j) (by simp at hj; omega)).1) (fun j hj => (h.some (k + j) (by simp at hj; omega)).2) (rep_mem _ _)
  rw [List.length_replicate] at this
  exact this

set_option linter.unusedSimpArgs false in
set_option linter.unusedVariables false in
set_option maxRecDepth 100000 in
set_option maxHeartbeats 4000000 in
theorem repeat_any (x : Int) (n b : Nat) (w : World) (hx : w.cell? ⟨b, 0, none⟩ = some (intV x)) (hn : n ≤ 12) :
    Calls Tryz.prog 47 #[.slice (some ⟨b, 0, none⟩) 1 1, .int .i64 (n : Int)] w fun r w' => (∃ v, r = .returned v ∧ w'.ownsRow w.heap.size 3 1 v n ((List.replicate n x).map intV)) ∧ Below w.heap.size w w' := by
  have hneg : decide ((n : Int) < 0) = false := decide_eq_false (by omega)
  obtain ⟨HM⟩ : Nonempty (Hid (∀ w', Calls Tryz.prog 84 #[.int .u64 1, .int .u64 (n : Int)] w' fun e w'' => e = .returned (.tuple #[.int .u64 0, .int .u64 (n : Int)]) ∧ w'' = w')) := ⟨fun w' => by
    have := Tryz.bits_Mul 1 n (by omega) (by omega) w'
    rw [show 1 * n / 18446744073709551616 = 0 by omega, show 1 * n % 18446744073709551616 = n by omega] at this
    exact this⟩
  obtain ⟨i0, hi, hz0, hz1, hz2⟩ := info_parts infoInt
  have hmk := run_make (P := Tryz.prog) w 22 3 i0 (.int .i64 0) Tryz.underlying22 hi hz0 .i64 .i64 (n : Int) (n : Int) (by omega) (Int.le_refl _) (by rw [hz2]; omega) (by omega)
  obtain ⟨MC, hMC⟩ : ∃ a : Array Value, Hid (madeCells (Value.int .i64 0).cells (n * i0.size) = a) := ⟨_, show _ = _ from rfl⟩
  simp only [Int.toNat_natCast] at hmk
  rw [show madeCells (Value.int .i64 0).cells (n * i0.size) = MC from hMC.out] at hmk
  have hsz : MC.size = n := by rw [← hMC.out, size_madeCells, hz1, Nat.mul_one]
  obtain ⟨G, hG⟩ : ∃ b, Hid (w.heap.size = b) := ⟨_, show _ = _ from rfl⟩
  obtain ⟨W1, hW1⟩ : ∃ W1, Hid (w.alloc (.cells MC 3) = W1) := ⟨_, show _ = _ from rfl⟩
  obtain ⟨HR⟩ : Nonempty (Hid (Rep w W1 G n 0 x ∧ W1.cell? ⟨b, 0, none⟩ = some (intV x))) := ⟨by
    rw [← hW1.out, ← hG.out]
    exact ⟨⟨MC, Go.heap_alloc_new w _, hsz, fun j h => by omega, below_alloc _ _⟩, cell_kept (below_alloc _ _) hx⟩⟩
  rw [show w.alloc (.cells MC 3) = W1 from hW1.out, show w.heap.size = G from hG.out] at hmk
  rw [show w.heap.size = G from hG.out]
  obtain ⟨W2, hW2⟩ : ∃ W2, Hid (W1.setCells G 0 (List.replicate (min 1 n) (intV x)) = W2) := ⟨_, show _ = _ from rfl⟩
  obtain ⟨HR2⟩ : Nonempty (Hid (Rep w W2 G n (min 1 n) x)) := ⟨by
    have := HR.out.1.copy (min 1 n) (by omega)
    rw [Nat.zero_add] at this
    rw [← hW2.out]; exact this⟩
  obtain ⟨HCP⟩ : Nonempty (Hid (∀ ty, (Builtin.copy_ #[22, 22] ty #[.slice (some ⟨G, 0, none⟩) n n, .slice (some ⟨b, 0, none⟩) 1 1]).run Tryz.prog W1 = .ok (goInt ((min 1 n : Nat) : Int)) W2)) := ⟨fun ty => by rw [← hW2.out]; exact rep_copy0 HR.out.1 b HR.out.2 n ty⟩
  clear hsz hi hz0 hz1 hz2 hx HR
  go_enter Tryz.func47, Tryz.ntmps47
  go_wp2_with fail
  refine (HM.out _).mono ?_
  rintro e w1 ⟨rfl, hw1⟩
  replace hw1 := hw1.symm
  subst hw1
  have hcp := HCP.out
  go_wp2_with fail
  clear hcp
  go_loopw [8] (fun s wr => ∃ (k : Nat), s = .int .i64 (k : Int) ∧ k ≤ n ∧ (k = 0 → n = 0) ∧ Hid (Rep w wr G n k x)) (fun s _ => n - (intOf s).toNat)
  case atStart => exact ⟨min 1 n, rfl, by omega, by omega, HR2⟩
  case round =>
    obtain ⟨k, rfl, hk, hk0, HK⟩ := hrel
    by_cases hlt : k < n
    · have q3 : (k : Int) < n := by omega
      obtain ⟨m, hm⟩ : ∃ m, Hid (min k (n - k) = m) := ⟨_, show _ = _ from rfl⟩
      have hm0 : k + m ≤ n ∧ 0 < m := by rw [← hm.out]; omega
      obtain ⟨hm1, hm2⟩ := hm0
      obtain ⟨W3, hW3⟩ : ∃ W3, Hid (wr.drew.setCells G k (List.replicate m (intV x)) = W3) := ⟨_, show _ = _ from rfl⟩
      obtain ⟨HN⟩ : Nonempty (Hid (Rep w W3 G n (k + m) x)) := ⟨by rw [← hW3.out]; exact HK.out.drew.copy m hm1⟩
      have hcp : ∀ ty dc sc, (Builtin.copy_ #[22, 22] ty #[.slice (some ⟨G, k, none⟩) (n - k) dc, .slice (some ⟨G, 0, none⟩) k sc]).run Tryz.prog wr.drew = .ok (goInt ((m : Nat) : Int)) W3 := fun ty dc sc => by
        have := rep_copy1 HK.out.drew hk dc sc ty
        rw [show min k (n - k) = m from hm.out, show wr.drew.setCells G k (List.replicate m (intV x)) = W3 from hW3.out] at this
        exact this
      have hwr : IntKind.i64.wrap ((k : Int) + (m : Int)) = (k : Int) + (m : Int) := wrapi _ (by omega)
      have hnk : ¬ n = k := by omega
      go_wp2_with fail
      refine wp_region_noPanic ?_
      refine wp_region_held_drew (S := (fun _ => True)) (by kernel_rfl) ?_ (fun hHeld => ?_)
      · trivial
      refine wpAnyH_take (i := 0) (v := ?_) rfl (by kernel_rfl) (by kernel_rfl) (by kernel_rfl) (fun _ _ _ h => h) (Or.inl ⟨by rfl, ?_⟩) (by assumption) ?_
      rotate_left
      · (intro w hSw; (try dsimp only at hSw); go_simp; try (with_reducible rfl))
      try simp only [Act.put, List.setIfInBounds_toArray, List.set_cons_zero, List.set_cons_succ, List.getElem_toArray, List.getElem_cons_zero, List.getElem_cons_succ]
      refine wpAnyH_take (i := 1) (v := ?_) rfl (by kernel_rfl) (by kernel_rfl) (by kernel_rfl) (fun _ _ _ h => h) (Or.inl ⟨by rfl, ?_⟩) (by assumption) ?_
      rotate_left
      · (intro w hSw; (try dsimp only at hSw); go_simp; try (with_reducible rfl))
      try simp only [Act.put, List.setIfInBounds_toArray, List.set_cons_zero, List.set_cons_succ, List.getElem_toArray, List.getElem_cons_zero, List.getElem_cons_succ]
      refine wpAnyH_take (i := 2) (v := ?_) rfl (by kernel_rfl) (by kernel_rfl) (by kernel_rfl) (fun _ _ _ h => h) (Or.inl ⟨by rfl, ?_⟩) (by assumption) ?_
      rotate_left
      · (intro w hSw; (try dsimp only at hSw); go_simp; try (with_reducible rfl))
      try simp only [Act.put, List.setIfInBounds_toArray, List.set_cons_zero, List.set_cons_succ, List.getElem_toArray, List.getElem_cons_zero, List.getElem_cons_succ]
      refine wpAnyH_take (i := 3) (v := ?_) rfl (by kernel_rfl) (by kernel_rfl) (by kernel_rfl) (fun _ _ _ h => h) (Or.inl ⟨by rfl, ?_⟩) (by assumption) ?_
      rotate_left
      · (intro w hSw; (try dsimp only at hSw); go_simp; try (with_reducible rfl))
      try simp only [Act.put, List.setIfInBounds_toArray, List.set_cons_zero, List.set_cons_succ, List.getElem_toArray, List.getElem_cons_zero, List.getElem_cons_succ]
      refine wpAnyH_take (i := 4) (v := ?_) rfl (by kernel_rfl) (by kernel_rfl) (by kernel_rfl) (fun _ _ _ h => h) (Or.inl ⟨by rfl, ?_⟩) (by assumption) ?_
      rotate_left
      · (intro w hSw; (try dsimp only at hSw); go_simp; try (with_reducible rfl))
      try simp only [Act.put, List.setIfInBounds_toArray, List.set_cons_zero, List.set_cons_succ, List.getElem_toArray, List.getElem_cons_zero, List.getElem_cons_succ]
      refine wpAnyH_take (i := 5) (v := ?_) rfl (by kernel_rfl) (by kernel_rfl) (by kernel_rfl) (fun _ _ _ h => h) (Or.inl ⟨by rfl, ?_⟩) (by assumption) ?_
      rotate_left
      · (intro w hSw; (try dsimp only at hSw); go_simp; try (with_reducible rfl))
      try simp only [Act.put, List.setIfInBounds_toArray, List.set_cons_zero, List.set_cons_succ, List.getElem_toArray, List.getElem_cons_zero, List.getElem_cons_succ]
      refine wpAnyH_take (i := 6) (v := ?_) rfl (by kernel_rfl) (by kernel_rfl) (by kernel_rfl) (fun _ _ _ h => h) (Or.inl ⟨by rfl, ?_⟩) (by assumption) ?_
      rotate_left
      · (intro w hSw; (try dsimp only at hSw); go_simp; try (with_reducible rfl))
      try simp only [Act.put, List.setIfInBounds_toArray, List.set_cons_zero, List.set_cons_succ, List.getElem_toArray, List.getElem_cons_zero, List.getElem_cons_succ]
      refine wpAnyH_ready (rs := [7]) (by kernel_rfl) (by simp) ?_
      refine AllReadyH.cons rfl (fun K hK => ?_) AllReadyH.nil
      go_simp
      refine hK.out _ _ ?_ (fun hHeld => ?_)
      · trivial
      clear hK K
      try simp only [Act.put, List.setIfInBounds_toArray, List.set_cons_zero, List.set_cons_succ, List.getElem_toArray, List.getElem_cons_zero, List.getElem_cons_succ]
      refine wpAnyH_take (i := 8) (v := ?_) rfl (by kernel_rfl) (by kernel_rfl) (by kernel_rfl) (fun _ _ _ h => h) (Or.inl ⟨by rfl, ?_⟩) (by assumption) ?_
      rotate_left
      · (intro w hSw; (try dsimp only at hSw); go_simp; try (with_reducible rfl))
      try simp only [Act.put, List.setIfInBounds_toArray, List.set_cons_zero, List.set_cons_succ, List.getElem_toArray, List.getElem_cons_zero, List.getElem_cons_succ]
      refine wpAnyH_take (i := 9) (v := ?_) rfl (by kernel_rfl) (by kernel_rfl) (by kernel_rfl) (fun _ _ _ h => h) (Or.inl ⟨by rfl, ?_⟩) (by assumption) ?_
      rotate_left
      · (intro w hSw; (try dsimp only at hSw); go_simp; try (with_reducible rfl))
      try simp only [Act.put, List.setIfInBounds_toArray, List.set_cons_zero, List.set_cons_succ, List.getElem_toArray, List.getElem_cons_zero, List.getElem_cons_succ]
      refine wpAnyH_done (by kernel_rfl) ?_ _
      refine NoPanic.normal ?_
      go_wp2_with fail
      go_roundw
      case rel => exact ⟨k + m, by go_num, hm1, by omega, HN⟩
      case measure => simp [intOf]; omega
    · obtain rfl : k = n := by omega
      obtain ⟨HF⟩ : Nonempty (Hid (wr.ownsRow G 3 1 (.slice (some ⟨G, 0, none⟩) k k) k ((List.replicate k x).map intV) ∧ Below G w wr)) := ⟨by
        obtain ⟨cur, a, b', c, d⟩ := HK.out
        refine ⟨⟨by simp, .inr ⟨G, k, cur, rfl, Nat.le_refl _, a, Nat.le_refl _, by unfold maxLen; omega, by omega, ?_⟩⟩, d⟩
        rw [Nat.mul_one, List.map_replicate]
        apply List.ext_getElem (by simp [b'])
        intro j h1 h2
        have hj : j < k := by simpa using h2
        have := c j hj
        rw [List.getElem_take, List.getElem_replicate]
        simpa [Array.getElem?_eq_some_iff, b', hj] using this⟩
      go_wp2_with fail
      go_ret
      exact ⟨⟨_, rfl, HF.out.1⟩, HF.out.2⟩
end Go.Proofs.YtbfdgflbflajdaaGreatDoor
