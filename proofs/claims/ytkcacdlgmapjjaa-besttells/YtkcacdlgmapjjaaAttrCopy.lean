/-
  The library's Clone at whole numbers, and package attr's Copy: what they return.
-/
import Derived.Test.YtkcacdlgmapjjaaAttrOwn
import Derived.Test.YtkcacdlgmapjjaaOwnBase
import Derived.Test.YtkcacdlgmapjjaaShelf
import Derived.Test.YtkcacdlgmapjjaaKeptBase
import Derived.Deep.Cut
import Derived.Deep.CutRange
namespace Go.Proofs.Ytkcacdlgmapjjaa
open Go.RowKit

theorem ints_at {w : World} {p : Option Addr} {L : List Int} (h : Ints w p L) (h0 : 0 < L.length) : ∃ b o, p = some ⟨b, o, none⟩ ∧ ∀ j, j < L.length → w.cell? ⟨b, o + j, none⟩ = some (.int .i64 (L.getD j 0)) := by
  obtain ⟨b, o, rfl, -⟩ := h 0 h0
  refine ⟨b, o, rfl, fun j hj => ?_⟩
  obtain ⟨b', o', e, c⟩ := h j hj
  simp only [Option.some.injEq, Addr.mk.injEq, and_true] at e
  obtain ⟨rfl, rfl⟩ := e
  rw [c]; simp [List.getD, hj]
theorem clone_i (p : Option Addr) (L : List Int) (c : Nat) (w : World) (h : Ints w p L) (hl : L.length ≤ 1000000) :
    Calls Try.prog 28 #[.slice p L.length c] w fun r w' => (∃ v', r = .returned v' ∧ w'.ownsRow w.heap.size 3 1 v' L.length (L.map intV)) ∧ Below w.heap.size w w' := by
  by_cases h0 : L.length = 0
  · have e1 : L = [] := List.eq_nil_of_length_eq_zero h0
    subst e1
    cases p with
    | none => exact (Try.slices_Clone_int_nil 0 c w).mono fun e w' ⟨he, hw⟩ => ⟨⟨_, he, World.ownsRow_nil _ _ _ _⟩, by rw [hw]; exact Below.refl _ _⟩
    | some ad => exact (Try.slices_Clone_int_zero ad c w).mono fun e w' ⟨v', he, ho, _, hb⟩ => ⟨⟨_, he, ho⟩, hb⟩
  · obtain ⟨b, o, rfl, hc⟩ := ints_at h (by omega)
    refine (Try.slices_Clone_int b o L.length c L w (Nat.le_refl _) (by omega) hc).mono fun e w' ⟨v', he, ho, _, hb⟩ => ⟨⟨_, he, ?_⟩, hb⟩
    rw [List.take_length] at ho
    exact ho
theorem kindW_of {p : Option Addr} {n c : Nat} (h : Kind1 p n c) : KindW p n c := by
  rcases h with h | ⟨⟨b, o, e⟩, -⟩
  · exact .inl h
  · exact .inr ⟨_, e⟩
theorem clone_any (p : Option Addr) (L : List Int) (c : Nat) (w : World) (h : Ints w p L) (_hk : Kind1 p L.length c) (hl : L.length ≤ 1000000) :
    Calls Try.prog 28 #[.slice p L.length c] w fun r w' => (∃ v', r = .returned v' ∧ w'.ownsRow w.heap.size 3 1 v' L.length (L.map intV)) ∧ Below w.heap.size w w' := clone_i p L c w h hl
theorem own_on {w w' : World} {base : Nat} {e : TypeId} {size : Nat} {v : Value} {n : Nat} {xs : List Value} (h : w.ownsRow base e size v n xs) {B : Nat} (hb : Below B w w') (hB : ∀ g, v.ownBlock = some g → g < B) : w'.ownsRow base e size v n xs := by
  refine ⟨h.1, ?_⟩
  rcases h.2 with h2 | ⟨g, cap, cur, rfl, h3, hg, r⟩
  · exact .inl h2
  · exact .inr ⟨g, cap, cur, rfl, h3, by rw [hb.block g (hB g rfl)]; exact hg, r⟩
theorem aOwn_below {w w' : World} {base : Nat} {e : TypeId} {size : Nat} {v : Value} {n : Nat} {xs : List Value} (h : w.ownsRow base e size v n xs) (hb : Below w.heap.size w w') : w'.ownsRow base e size v n xs := own_on h hb (fun g hg => (h.lt g hg).2)
theorem own_set {w : World} {base : Nat} {e : TypeId} {size : Nat} {v : Value} {n : Nat} {xs : List Value} (h : w.ownsRow base e size v n xs) {B : Nat} (hB : B < base) (k : Nat) (u : Value) : (w.setCell ⟨B, k, none⟩ u).ownsRow base e size v n xs := by
  refine ⟨h.1, ?_⟩
  rcases h.2 with h2 | ⟨g, cap, cur, rfl, h3, hg, r⟩
  · exact .inl h2
  · exact .inr ⟨g, cap, cur, rfl, h3, by rw [Below.heap_setCell _ _ _ _ (by simp; omega)]; exact hg, r⟩
/-- a value that holds an attribute whose rows lie from block N on. -/
def AttrG (w : World) (v : Value) (A : At) (N : Nat) : Prop :=
  ∃ p cp q cq, v = .agg #[.slice p A.path.length cp, .int .i64 A.pref, .int .i64 A.med, .int .i64 A.org, .slice q A.tags.length cq] ∧ Ints w p A.path ∧ Ints w q A.tags ∧ Kind1 p A.path.length cp ∧ Kind1 q A.tags.length cq ∧ (∀ b o, p = some ⟨b, o, none⟩ → N ≤ b) ∧ (∀ b o, q = some ⟨b, o, none⟩ → N ≤ b)
theorem AttrG.attrK {w : World} {v : Value} {A : At} {N : Nat} (h : AttrG w v A N) : AttrK w v A := by
  obtain ⟨p, cp, q, cq, e, h1, h2, h3, h4, -, -⟩ := h
  exact ⟨p, cp, q, cq, e, h1, h2, h3, h4⟩
/-- an attribute at C, its rows elsewhere, from L on. -/
def AR (w : World) (L C : Nat) (A : At) : Prop := ∃ p cp q cq, w.heap[C]? = some (.cells #[.slice p A.path.length cp, .int .i64 A.pref, .int .i64 A.med, .int .i64 A.org, .slice q A.tags.length cq] 29 (0, 0)) ∧
  Ints w p A.path ∧ Ints w q A.tags ∧ Kind1 p A.path.length cp ∧ Kind1 q A.tags.length cq ∧ (∀ b o, p = some ⟨b, o, none⟩ → L ≤ b ∧ b ≠ C) ∧ (∀ b o, q = some ⟨b, o, none⟩ → L ≤ b ∧ b ≠ C)
/-- two rows of one's own from L on: a path's, and a set of tags'. -/
def CP (w : World) (L : Nat) (A : At) (p : Option Addr) (cp : Nat) (q : Option Addr) (cq : Nat) : Prop := ∃ S, w.ownsRow L 3 1 (.slice p A.path.length cp) A.path.length (A.path.map intV) ∧ w.ownsRow S 3 1 (.slice q A.tags.length cq) A.tags.length (A.tags.map intV) ∧ L ≤ S ∧ (∀ b o, p = some ⟨b, o, none⟩ → b < S) ∧ S ≤ w.heap.size
theorem cp_parts {w : World} {L : Nat} {A : At} {p : Option Addr} {cp : Nat} {q : Option Addr} {cq : Nat} (h : CP w L A p cp q cq) : Ints w p A.path ∧ Ints w q A.tags ∧ Kind1 p A.path.length cp ∧ Kind1 q A.tags.length cq ∧ (∀ b o, p = some ⟨b, o, none⟩ → L ≤ b ∧ b < w.heap.size) ∧ (∀ b o, q = some ⟨b, o, none⟩ → L ≤ b ∧ b < w.heap.size) := by
  obtain ⟨S, h2, h3, h4, h5, h6⟩ := h
  have l2 := fun g e => (h2.lt g e).2
  have l3 := fun g e => (h3.lt g e).2
  obtain ⟨p', c', e, k1, i1, f1⟩ := own_kind' h2
  obtain ⟨q', d', e', k2, i2, f2⟩ := own_kind' h3
  simp only [Value.slice.injEq, true_and] at e e'
  obtain ⟨rfl, rfl⟩ := e
  obtain ⟨rfl, rfl⟩ := e'
  exact ⟨i1, i2, k1, k2, fun b o e => ⟨f1 b o e, l2 b (by rw [e]; rfl)⟩, fun b o e => ⟨by have := f2 b o e; omega, l3 b (by rw [e]; rfl)⟩⟩
theorem cp_g {w : World} {L : Nat} {A : At} {p : Option Addr} {cp : Nat} {q : Option Addr} {cq : Nat} (h : CP w L A p cp q cq) : AttrG w (.agg #[.slice p A.path.length cp, .int .i64 A.pref, .int .i64 A.med, .int .i64 A.org, .slice q A.tags.length cq]) A L := by
  obtain ⟨i1, i2, k1, k2, n1, n2⟩ := cp_parts h
  exact ⟨p, cp, q, cq, rfl, i1, i2, k1, k2, fun b o e => (n1 b o e).1, fun b o e => (n2 b o e).1⟩
theorem cp_on {w w' : World} {L : Nat} {A : At} {p : Option Addr} {cp : Nat} {q : Option Addr} {cq : Nat} (h : CP w L A p cp q cq) (hb : Below w.heap.size w w') : CP w' L A p cp q cq := by
  obtain ⟨S, s1, s2, s3, s4, s5⟩ := h
  exact ⟨S, aOwn_below s1 hb, aOwn_below s2 hb, s3, s4, Nat.le_trans s5 hb.size⟩
/-- an attribute at C with rows of its own, from L on and elsewhere. -/
def AP (w : World) (L C : Nat) (A : At) : Prop := ∃ p cp q cq, w.heap[C]? = some (.cells #[.slice p A.path.length cp, .int .i64 A.pref, .int .i64 A.med, .int .i64 A.org, .slice q A.tags.length cq] 29 (0, 0)) ∧ CP w L A p cp q cq ∧ (∀ b o, p = some ⟨b, o, none⟩ → b ≠ C) ∧ (∀ b o, q = some ⟨b, o, none⟩ → b ≠ C) ∧ L ≤ C
theorem ap_ar {w : World} {L C : Nat} {A : At} (h : AP w L C A) : AR w L C A := by
  obtain ⟨p, cp, q, cq, h1, h2, h3, h4, h5⟩ := h
  obtain ⟨i1, i2, k1, k2, n1, n2⟩ := cp_parts h2
  exact ⟨p, cp, q, cq, h1, i1, i2, k1, k2, fun b o e => ⟨(n1 b o e).1, h3 b o e⟩, fun b o e => ⟨(n2 b o e).1, h4 b o e⟩⟩
theorem Ints.setNe {w : World} {p : Option Addr} {L : List Int} (h : Ints w p L) {B : Nat} (hne : ∀ b o, p = some ⟨b, o, none⟩ → b ≠ B) (k : Nat) (u : Value) : Ints (w.setCell ⟨B, k, none⟩ u) p L := fun i hi => by
  obtain ⟨b, o, e, c⟩ := h i hi
  have := hne b o e
  exact ⟨b, o, e, by rw [World.cell?_setCell_other _ _ _ _ (by intro he; simp at he <;> omega)]; exact c⟩
theorem setFive {w w1 : World} {B R : Nat} (hb : Below B w w1) (hR : B ≤ R) (a b c d e : Value) : Below B w (((((w1.setCell ⟨R, 0, none⟩ a).setCell ⟨R, 1, none⟩ b).setCell ⟨R, 2, none⟩ c).setCell ⟨R, 3, none⟩ d).setCell ⟨R, 4, none⟩ e) :=
  ((((hb.setCell (p := ⟨R, 0, none⟩) hR _).setCell (p := ⟨R, 1, none⟩) hR _).setCell (p := ⟨R, 2, none⟩) hR _).setCell (p := ⟨R, 3, none⟩) hR _).setCell (p := ⟨R, 4, none⟩) hR _
theorem own_five {w : World} {base : Nat} {e : TypeId} {size : Nat} {v : Value} {n : Nat} {xs : List Value} (h : w.ownsRow base e size v n xs) {B : Nat} (hB : B < base) (a b c d f : Value) : (((((w.setCell ⟨B, 0, none⟩ a).setCell ⟨B, 1, none⟩ b).setCell ⟨B, 2, none⟩ c).setCell ⟨B, 3, none⟩ d).setCell ⟨B, 4, none⟩ f).ownsRow base e size v n xs :=
  own_set (own_set (own_set (own_set (own_set h hB _ _) hB _ _) hB _ _) hB _ _) hB _ _

set_option linter.unusedSimpArgs false in
set_option linter.unusedVariables false in
set_option maxRecDepth 100000 in
set_option maxHeartbeats 4000000 in
theorem copy_i (v : Value) (A : At) (w : World) (h : IsAttr w v A) (h1 : A.path.length ≤ 1000000) (h2 : A.tags.length ≤ 1000000) :
    Calls Try.prog 22 #[v] w fun r w' => (∃ p1 c1 p2 c2, r = .returned (.agg #[.slice p1 A.path.length c1, .int .i64 A.pref, .int .i64 A.med, .int .i64 A.org, .slice p2 A.tags.length c2]) ∧ CP w' w.heap.size A p1 c1 p2 c2) ∧ Below w.heap.size w w' := by
  obtain ⟨p, cp, q, cq, rfl, i1, i2⟩ := h
  have HCP : Hid (∀ w', Below w.heap.size w w' → Calls _ _ _ _ _) := fun w' hb => clone_i p A.path cp w' (i1.below hb) h1
  have HCT : Hid (∀ w', Below w.heap.size w w' → Calls _ _ _ _ _) := fun w' hb => clone_i q A.tags cq w' (i2.below hb) h2
  obtain ⟨B, hB⟩ : ∃ B, Hid (w.heap.size = B) := ⟨_, show _ = _ from rfl⟩
  obtain ⟨P, f0, n, o, T⟩ := A
  simp only at *
  clear i1 i2 h1 h2
  go_enter Try.func22, Try.ntmps22
  go_upto_region 1 with fail
  obtain ⟨HA0⟩ : Nonempty (Hid (AX w ((w.alloc (.cells #[.slice p P.length cp, .int .i64 f0, .int .i64 n, .int .i64 o, .slice q T.length cq] 29)).alloc (.cells #[.slice none 0 0, .int .i64 0, .int .i64 0, .int .i64 0, .slice none 0 0] 29)).drew w.heap.size _ _)) := ⟨(ax_start w _ _).on (Below.refl _ _).drew⟩
  obtain ⟨x0, hx0⟩ : ∃ x, Hid (((w.alloc (.cells #[.slice p P.length cp, .int .i64 f0, .int .i64 n, .int .i64 o, .slice q T.length cq] 29)).alloc (.cells #[.slice none 0 0, .int .i64 0, .int .i64 0, .int .i64 0, .slice none 0 0] 29)) = x) := ⟨_, show _ = _ from rfl⟩
  rw [show ((w.alloc (.cells #[.slice p P.length cp, .int .i64 f0, .int .i64 n, .int .i64 o, .slice q T.length cq] 29)).alloc (.cells #[.slice none 0 0, .int .i64 0, .int .i64 0, .int .i64 0, .slice none 0 0] 29)) = x0 from hx0.out] at HA0 ⊢
  rw [show w.heap.size = B from hB.out] at HA0 HCP HCT ⊢
  clear hx0
  go_cut [] from 3 (fun w' => ∃ (wx : World) (p1 : Option Addr) (c1 : Nat) (p2 : Option Addr) (c2 : Nat), Hid (AX w wx B #[.slice p1 P.length c1, .int .i64 f0, .int .i64 n, .int .i64 o, .slice p2 T.length c2] #[.slice none 0 0, .int .i64 0, .int .i64 0, .int .i64 0, .slice none 0 0] ∧ CP wx (B + 2) ⟨P, f0, n, o, T⟩ p1 c1 p2 c2) ∧ wx = w')
  case first J0 K0 hJ0 hK0 =>
    refine wp_region_noPanic ?_
    refine wp_region_held_drew (S := (fun _ => True)) (by kernel_rfl) ?_ (fun hHeld => ?_)
    · trivial
    refine wpAnyH_take (i := 0) (v := ?_) rfl (by kernel_rfl) (by kernel_rfl) (by kernel_rfl) (fun _ _ _ h => h) (Or.inl ⟨by rfl, ?_⟩) (by assumption) ?_
    rotate_left
    · (intro w hSw; (try dsimp only at hSw); go_simp; try (with_reducible rfl))
    try simp only [Act.put, List.setIfInBounds_toArray, List.set_cons_zero, List.set_cons_succ, List.getElem_toArray, List.getElem_cons_zero, List.getElem_cons_succ]
    refine wpAnyH_take (i := 3) (v := ?_) rfl (by kernel_rfl) (by kernel_rfl) (by kernel_rfl) (fun _ _ _ h => h) (Or.inl ⟨by rfl, ?_⟩) (by assumption) ?_
    rotate_left
    · (intro w hSw; (try dsimp only at hSw); go_simp; try (with_reducible rfl))
    try simp only [Act.put, List.setIfInBounds_toArray, List.set_cons_zero, List.set_cons_succ, List.getElem_toArray, List.getElem_cons_zero, List.getElem_cons_succ]
    refine wpAnyH_ready (rs := [1, 4]) (by kernel_rfl) (by simp) ?_
    refine (AllReadyH.cons rfl (fun K hK => ?_) (AllReadyH.cons rfl (fun K hK => ?_) AllReadyH.nil))
    · skip
      obtain ⟨a0, a1, a2, a3, a4⟩ := HA0.out.arg
      go_simp
      refine hK.out _ _ trivial (fun hHeld => ?_)
      clear hK K a0 a1 a2 a3 a4
      try simp only [Act.put, List.setIfInBounds_toArray, List.set_cons_zero, List.set_cons_succ, List.getElem_toArray, List.getElem_cons_zero, List.getElem_cons_succ]
      refine wpAnyH_ready (rs := [2, 4]) (by kernel_rfl) (by simp) ?_
      refine (AllReadyH.cons rfl (fun K hK => ?_) (AllReadyH.cons rfl (fun K hK => ?_) AllReadyH.nil))
      · skip
        go_simp
        refine (HCP.out _ HA0.out.2.2).mono ?_
        rintro r x1 ⟨⟨v, rfl, ho⟩, hb⟩
        obtain ⟨p1, c1, rfl, -, -, hf⟩ := own_kind' ho
        obtain ⟨HA1⟩ : Nonempty (Hid (AX w x1 B _ _)) := ⟨HA0.out.on hb⟩
        obtain ⟨HP1⟩ : Nonempty (Hid (World.ownsRow x1 (B + 2) 3 1 (.slice p1 P.length c1) P.length (P.map intV))) := ⟨⟨ho.1, ho.2.imp id fun ⟨g, cap, cur, h1, h2, h3⟩ => ⟨g, cap, cur, h1, Nat.le_trans (Array.getElem?_eq_some_iff.1 HA0.out.2.1).1 h2, h3⟩⟩⟩
        refine hK.out _ _ trivial (fun hHeld => ?_)
        clear hK K ho hb hf
        try simp only [Act.put, List.setIfInBounds_toArray, List.set_cons_zero, List.set_cons_succ, List.getElem_toArray, List.getElem_cons_zero, List.getElem_cons_succ]
        refine wpAnyH_ready (rs := [4]) (by kernel_rfl) (by simp) ?_
        refine AllReadyH.cons rfl (fun K hK => ?_) AllReadyH.nil
        obtain ⟨a0, a1, a2, a3, a4⟩ := HA1.out.arg
        go_simp
        refine hK.out _ _ trivial (fun hHeld => ?_)
        clear hK K a0 a1 a2 a3 a4
        try simp only [Act.put, List.setIfInBounds_toArray, List.set_cons_zero, List.set_cons_succ, List.getElem_toArray, List.getElem_cons_zero, List.getElem_cons_succ]
        refine wpAnyH_take (i := 6) (v := ?_) rfl (by kernel_rfl) (by kernel_rfl) (by kernel_rfl) (fun _ _ _ h => h) (Or.inl ⟨by rfl, ?_⟩) (by assumption) ?_
        rotate_left
        · (intro w hSw; (try dsimp only at hSw); go_simp; try (with_reducible rfl))
        try simp only [Act.put, List.setIfInBounds_toArray, List.set_cons_zero, List.set_cons_succ, List.getElem_toArray, List.getElem_cons_zero, List.getElem_cons_succ]
        refine wpAnyH_ready (rs := [5]) (by kernel_rfl) (by simp) ?_
        refine AllReadyH.cons rfl (fun K hK => ?_) AllReadyH.nil
        go_simp
        refine (HCT.out _ HA1.out.2.2).mono ?_
        rintro r x2 ⟨⟨v, rfl, ho⟩, hb⟩
        obtain ⟨p2, c2, rfl, -, -, hf⟩ := own_kind' ho
        obtain ⟨HA2⟩ : Nonempty (Hid (AX w x2 B _ _)) := ⟨HA1.out.on hb⟩
        obtain ⟨HP2⟩ : Nonempty (Hid (World.ownsRow x2 (B + 2) 3 1 (.slice p1 P.length c1) P.length (P.map intV))) := ⟨aOwn_below HP1.out hb⟩
        obtain ⟨HT2⟩ : Nonempty (Hid (∃ S, World.ownsRow x2 S 3 1 (.slice p2 T.length c2) T.length (T.map intV) ∧ B + 2 ≤ S ∧ (∀ b o, p1 = some ⟨b, o, none⟩ → b < S) ∧ S ≤ x2.heap.size)) := ⟨⟨_, ho, (Array.getElem?_eq_some_iff.1 HA1.out.2.1).1, fun b o e => (HP1.out.lt b (by rw [e]; rfl)).2, hb.size⟩⟩
        refine hK.out _ _ trivial (fun hHeld => ?_)
        clear hK K ho hb hf
        try simp only [Act.put, List.setIfInBounds_toArray, List.set_cons_zero, List.set_cons_succ, List.getElem_toArray, List.getElem_cons_zero, List.getElem_cons_succ]
        refine wpAnyH_ready (rs := [7]) (by kernel_rfl) (by simp) ?_
        refine AllReadyH.cons rfl (fun K hK => ?_) AllReadyH.nil
        obtain ⟨a0, a1, a2, a3, a4⟩ := HA2.out.arg
        have z0 := (HA2.out.soft 0).1
        go_simp
        obtain ⟨x3, hx3⟩ : ∃ x, Hid (x2.setCell ⟨B, 0, none⟩ (.slice p1 P.length c1) = x) := ⟨_, show _ = _ from rfl⟩
        rw [show x2.setCell ⟨B, 0, none⟩ (.slice p1 P.length c1) = x3 from hx3.out]
        obtain ⟨HA3⟩ : Nonempty (Hid (AX w x3 B _ _)) := ⟨by rw [← hx3.out]; exact HA2.out.set 0 (.slice p1 P.length c1)⟩
        obtain ⟨HP3⟩ : Nonempty (Hid (World.ownsRow x3 (B + 2) 3 1 (.slice p1 P.length c1) P.length (P.map intV))) := ⟨by rw [← hx3.out]; exact own_set HP2.out (by omega) _ _⟩
        obtain ⟨HT3⟩ : Nonempty (Hid (∃ S, World.ownsRow x3 S 3 1 (.slice p2 T.length c2) T.length (T.map intV) ∧ B + 2 ≤ S ∧ (∀ b o, p1 = some ⟨b, o, none⟩ → b < S) ∧ S ≤ x3.heap.size)) := ⟨by
          obtain ⟨S, s1, s2, s3, s4⟩ := HT2.out
          rw [← hx3.out]; exact ⟨S, own_set s1 (by omega) _ _, s2, s3, by simpa [World.setCell] using s4⟩⟩
        refine hK.out _ _ trivial (fun hHeld => ?_)
        clear hK K a0 a1 a2 a3 a4 z0
        try simp only [Act.put, List.setIfInBounds_toArray, List.set_cons_zero, List.set_cons_succ, List.getElem_toArray, List.getElem_cons_zero, List.getElem_cons_succ]
        refine wpAnyH_take (i := 8) (v := ?_) rfl (by kernel_rfl) (by kernel_rfl) (by kernel_rfl) (fun _ _ _ h => h) (Or.inl ⟨by rfl, ?_⟩) (by assumption) ?_
        rotate_left
        · (intro w hSw; (try dsimp only at hSw); go_simp; try (with_reducible rfl))
        try simp only [Act.put, List.setIfInBounds_toArray, List.set_cons_zero, List.set_cons_succ, List.getElem_toArray, List.getElem_cons_zero, List.getElem_cons_succ]
        refine wpAnyH_ready (rs := [9]) (by kernel_rfl) (by simp) ?_
        refine AllReadyH.cons rfl (fun K hK => ?_) AllReadyH.nil
        obtain ⟨a0, a1, a2, a3, a4⟩ := HA3.out.arg
        have z4 := (HA3.out.soft 4).1
        go_simp
        obtain ⟨x4, hx4⟩ : ∃ x, Hid (x3.setCell ⟨B, 4, none⟩ (.slice p2 T.length c2) = x) := ⟨_, show _ = _ from rfl⟩
        rw [show x3.setCell ⟨B, 4, none⟩ (.slice p2 T.length c2) = x4 from hx4.out]
        obtain ⟨HA4⟩ : Nonempty (Hid (AX w x4 B _ _)) := ⟨by rw [← hx4.out]; exact HA3.out.set 4 (.slice p2 T.length c2)⟩
        obtain ⟨HP4⟩ : Nonempty (Hid (World.ownsRow x4 (B + 2) 3 1 (.slice p1 P.length c1) P.length (P.map intV))) := ⟨by rw [← hx4.out]; exact own_set HP3.out (by omega) _ _⟩
        obtain ⟨HT4⟩ : Nonempty (Hid (∃ S, World.ownsRow x4 S 3 1 (.slice p2 T.length c2) T.length (T.map intV) ∧ B + 2 ≤ S ∧ (∀ b o, p1 = some ⟨b, o, none⟩ → b < S) ∧ S ≤ x4.heap.size)) := ⟨by
          obtain ⟨S, s1, s2, s3, s4⟩ := HT3.out
          rw [← hx4.out]; exact ⟨S, own_set s1 (by omega) _ _, s2, s3, by simpa [World.setCell] using s4⟩⟩
        refine hK.out _ _ trivial (fun hHeld => ?_)
        clear hK K a0 a1 a2 a3 a4 z4
        try simp only [Act.put, List.setIfInBounds_toArray, List.set_cons_zero, List.set_cons_succ, List.getElem_toArray, List.getElem_cons_zero, List.getElem_cons_succ]
        refine wpAnyH_done (by kernel_rfl) ?_ _
        refine NoPanic.normal ?_
        show K0 _ _
        obtain ⟨HF⟩ : Nonempty (Hid (AX w x4 B #[.slice p1 P.length c1, .int .i64 f0, .int .i64 n, .int .i64 o, .slice p2 T.length c2] #[.slice none 0 0, .int .i64 0, .int .i64 0, .int .i64 0, .slice none 0 0] ∧ CP x4 (B + 2) ⟨P, f0, n, o, T⟩ p1 c1 p2 c2)) := ⟨by
      obtain ⟨S, s1, s2, s3, s4⟩ := HT4.out
      have hh := HA4.out
      simp only [List.setIfInBounds_toArray, List.set_cons_zero, List.set_cons_succ] at hh
      exact ⟨hh, S, HP4.out, s1, s2, s3, s4⟩⟩
        refine hK0 _ _ (Met.intro (hJ0 _ _ ?_))
        (repeat apply Exists.intro)
        exact ⟨⟨x4, p1, c1, p2, c2, HF, rfl⟩, rfl⟩
      · skip
        obtain ⟨a0, a1, a2, a3, a4⟩ := HA0.out.arg
        go_simp
        refine hK.out _ _ trivial (fun hHeld => ?_)
        clear hK K a0 a1 a2 a3 a4
        try simp only [Act.put, List.setIfInBounds_toArray, List.set_cons_zero, List.set_cons_succ, List.getElem_toArray, List.getElem_cons_zero, List.getElem_cons_succ]
        refine wpAnyH_ready (rs := [2]) (by kernel_rfl) (by simp) ?_
        refine AllReadyH.cons rfl (fun K hK => ?_) AllReadyH.nil
        go_simp
        refine (HCP.out _ HA0.out.2.2).mono ?_
        rintro r x1 ⟨⟨v, rfl, ho⟩, hb⟩
        obtain ⟨p1, c1, rfl, -, -, hf⟩ := own_kind' ho
        obtain ⟨HA1⟩ : Nonempty (Hid (AX w x1 B _ _)) := ⟨HA0.out.on hb⟩
        obtain ⟨HP1⟩ : Nonempty (Hid (World.ownsRow x1 (B + 2) 3 1 (.slice p1 P.length c1) P.length (P.map intV))) := ⟨⟨ho.1, ho.2.imp id fun ⟨g, cap, cur, h1, h2, h3⟩ => ⟨g, cap, cur, h1, Nat.le_trans (Array.getElem?_eq_some_iff.1 HA0.out.2.1).1 h2, h3⟩⟩⟩
        refine hK.out _ _ trivial (fun hHeld => ?_)
        clear hK K ho hb hf
        try simp only [Act.put, List.setIfInBounds_toArray, List.set_cons_zero, List.set_cons_succ, List.getElem_toArray, List.getElem_cons_zero, List.getElem_cons_succ]
        refine wpAnyH_take (i := 6) (v := ?_) rfl (by kernel_rfl) (by kernel_rfl) (by kernel_rfl) (fun _ _ _ h => h) (Or.inl ⟨by rfl, ?_⟩) (by assumption) ?_
        rotate_left
        · (intro w hSw; (try dsimp only at hSw); go_simp; try (with_reducible rfl))
        try simp only [Act.put, List.setIfInBounds_toArray, List.set_cons_zero, List.set_cons_succ, List.getElem_toArray, List.getElem_cons_zero, List.getElem_cons_succ]
        refine wpAnyH_ready (rs := [5]) (by kernel_rfl) (by simp) ?_
        refine AllReadyH.cons rfl (fun K hK => ?_) AllReadyH.nil
        go_simp
        refine (HCT.out _ HA1.out.2.2).mono ?_
        rintro r x2 ⟨⟨v, rfl, ho⟩, hb⟩
        obtain ⟨p2, c2, rfl, -, -, hf⟩ := own_kind' ho
        obtain ⟨HA2⟩ : Nonempty (Hid (AX w x2 B _ _)) := ⟨HA1.out.on hb⟩
        obtain ⟨HP2⟩ : Nonempty (Hid (World.ownsRow x2 (B + 2) 3 1 (.slice p1 P.length c1) P.length (P.map intV))) := ⟨aOwn_below HP1.out hb⟩
        obtain ⟨HT2⟩ : Nonempty (Hid (∃ S, World.ownsRow x2 S 3 1 (.slice p2 T.length c2) T.length (T.map intV) ∧ B + 2 ≤ S ∧ (∀ b o, p1 = some ⟨b, o, none⟩ → b < S) ∧ S ≤ x2.heap.size)) := ⟨⟨_, ho, (Array.getElem?_eq_some_iff.1 HA1.out.2.1).1, fun b o e => (HP1.out.lt b (by rw [e]; rfl)).2, hb.size⟩⟩
        refine hK.out _ _ trivial (fun hHeld => ?_)
        clear hK K ho hb hf
        try simp only [Act.put, List.setIfInBounds_toArray, List.set_cons_zero, List.set_cons_succ, List.getElem_toArray, List.getElem_cons_zero, List.getElem_cons_succ]
        refine wpAnyH_ready (rs := [7]) (by kernel_rfl) (by simp) ?_
        refine AllReadyH.cons rfl (fun K hK => ?_) AllReadyH.nil
        obtain ⟨a0, a1, a2, a3, a4⟩ := HA2.out.arg
        have z0 := (HA2.out.soft 0).1
        go_simp
        obtain ⟨x3, hx3⟩ : ∃ x, Hid (x2.setCell ⟨B, 0, none⟩ (.slice p1 P.length c1) = x) := ⟨_, show _ = _ from rfl⟩
        rw [show x2.setCell ⟨B, 0, none⟩ (.slice p1 P.length c1) = x3 from hx3.out]
        obtain ⟨HA3⟩ : Nonempty (Hid (AX w x3 B _ _)) := ⟨by rw [← hx3.out]; exact HA2.out.set 0 (.slice p1 P.length c1)⟩
        obtain ⟨HP3⟩ : Nonempty (Hid (World.ownsRow x3 (B + 2) 3 1 (.slice p1 P.length c1) P.length (P.map intV))) := ⟨by rw [← hx3.out]; exact own_set HP2.out (by omega) _ _⟩
        obtain ⟨HT3⟩ : Nonempty (Hid (∃ S, World.ownsRow x3 S 3 1 (.slice p2 T.length c2) T.length (T.map intV) ∧ B + 2 ≤ S ∧ (∀ b o, p1 = some ⟨b, o, none⟩ → b < S) ∧ S ≤ x3.heap.size)) := ⟨by
          obtain ⟨S, s1, s2, s3, s4⟩ := HT2.out
          rw [← hx3.out]; exact ⟨S, own_set s1 (by omega) _ _, s2, s3, by simpa [World.setCell] using s4⟩⟩
        refine hK.out _ _ trivial (fun hHeld => ?_)
        clear hK K a0 a1 a2 a3 a4 z0
        try simp only [Act.put, List.setIfInBounds_toArray, List.set_cons_zero, List.set_cons_succ, List.getElem_toArray, List.getElem_cons_zero, List.getElem_cons_succ]
        refine wpAnyH_take (i := 8) (v := ?_) rfl (by kernel_rfl) (by kernel_rfl) (by kernel_rfl) (fun _ _ _ h => h) (Or.inl ⟨by rfl, ?_⟩) (by assumption) ?_
        rotate_left
        · (intro w hSw; (try dsimp only at hSw); go_simp; try (with_reducible rfl))
        try simp only [Act.put, List.setIfInBounds_toArray, List.set_cons_zero, List.set_cons_succ, List.getElem_toArray, List.getElem_cons_zero, List.getElem_cons_succ]
        refine wpAnyH_ready (rs := [9]) (by kernel_rfl) (by simp) ?_
        refine AllReadyH.cons rfl (fun K hK => ?_) AllReadyH.nil
        obtain ⟨a0, a1, a2, a3, a4⟩ := HA3.out.arg
        have z4 := (HA3.out.soft 4).1
        go_simp
        obtain ⟨x4, hx4⟩ : ∃ x, Hid (x3.setCell ⟨B, 4, none⟩ (.slice p2 T.length c2) = x) := ⟨_, show _ = _ from rfl⟩
        rw [show x3.setCell ⟨B, 4, none⟩ (.slice p2 T.length c2) = x4 from hx4.out]
        obtain ⟨HA4⟩ : Nonempty (Hid (AX w x4 B _ _)) := ⟨by rw [← hx4.out]; exact HA3.out.set 4 (.slice p2 T.length c2)⟩
        obtain ⟨HP4⟩ : Nonempty (Hid (World.ownsRow x4 (B + 2) 3 1 (.slice p1 P.length c1) P.length (P.map intV))) := ⟨by rw [← hx4.out]; exact own_set HP3.out (by omega) _ _⟩
        obtain ⟨HT4⟩ : Nonempty (Hid (∃ S, World.ownsRow x4 S 3 1 (.slice p2 T.length c2) T.length (T.map intV) ∧ B + 2 ≤ S ∧ (∀ b o, p1 = some ⟨b, o, none⟩ → b < S) ∧ S ≤ x4.heap.size)) := ⟨by
          obtain ⟨S, s1, s2, s3, s4⟩ := HT3.out
          rw [← hx4.out]; exact ⟨S, own_set s1 (by omega) _ _, s2, s3, by simpa [World.setCell] using s4⟩⟩
        refine hK.out _ _ trivial (fun hHeld => ?_)
        clear hK K a0 a1 a2 a3 a4 z4
        try simp only [Act.put, List.setIfInBounds_toArray, List.set_cons_zero, List.set_cons_succ, List.getElem_toArray, List.getElem_cons_zero, List.getElem_cons_succ]
        refine wpAnyH_done (by kernel_rfl) ?_ _
        refine NoPanic.normal ?_
        show K0 _ _
        obtain ⟨HF⟩ : Nonempty (Hid (AX w x4 B #[.slice p1 P.length c1, .int .i64 f0, .int .i64 n, .int .i64 o, .slice p2 T.length c2] #[.slice none 0 0, .int .i64 0, .int .i64 0, .int .i64 0, .slice none 0 0] ∧ CP x4 (B + 2) ⟨P, f0, n, o, T⟩ p1 c1 p2 c2)) := ⟨by
      obtain ⟨S, s1, s2, s3, s4⟩ := HT4.out
      have hh := HA4.out
      simp only [List.setIfInBounds_toArray, List.set_cons_zero, List.set_cons_succ] at hh
      exact ⟨hh, S, HP4.out, s1, s2, s3, s4⟩⟩
        refine hK0 _ _ (Met.intro (hJ0 _ _ ?_))
        (repeat apply Exists.intro)
        exact ⟨⟨x4, p1, c1, p2, c2, HF, rfl⟩, rfl⟩
    · skip
      obtain ⟨a0, a1, a2, a3, a4⟩ := HA0.out.arg
      go_simp
      refine hK.out _ _ trivial (fun hHeld => ?_)
      clear hK K a0 a1 a2 a3 a4
      try simp only [Act.put, List.setIfInBounds_toArray, List.set_cons_zero, List.set_cons_succ, List.getElem_toArray, List.getElem_cons_zero, List.getElem_cons_succ]
      refine wpAnyH_ready (rs := [1]) (by kernel_rfl) (by simp) ?_
      refine AllReadyH.cons rfl (fun K hK => ?_) AllReadyH.nil
      obtain ⟨a0, a1, a2, a3, a4⟩ := HA0.out.arg
      go_simp
      refine hK.out _ _ trivial (fun hHeld => ?_)
      clear hK K a0 a1 a2 a3 a4
      try simp only [Act.put, List.setIfInBounds_toArray, List.set_cons_zero, List.set_cons_succ, List.getElem_toArray, List.getElem_cons_zero, List.getElem_cons_succ]
      refine wpAnyH_ready (rs := [2]) (by kernel_rfl) (by simp) ?_
      refine AllReadyH.cons rfl (fun K hK => ?_) AllReadyH.nil
      go_simp
      refine (HCP.out _ HA0.out.2.2).mono ?_
      rintro r x1 ⟨⟨v, rfl, ho⟩, hb⟩
      obtain ⟨p1, c1, rfl, -, -, hf⟩ := own_kind' ho
      obtain ⟨HA1⟩ : Nonempty (Hid (AX w x1 B _ _)) := ⟨HA0.out.on hb⟩
      obtain ⟨HP1⟩ : Nonempty (Hid (World.ownsRow x1 (B + 2) 3 1 (.slice p1 P.length c1) P.length (P.map intV))) := ⟨⟨ho.1, ho.2.imp id fun ⟨g, cap, cur, h1, h2, h3⟩ => ⟨g, cap, cur, h1, Nat.le_trans (Array.getElem?_eq_some_iff.1 HA0.out.2.1).1 h2, h3⟩⟩⟩
      refine hK.out _ _ trivial (fun hHeld => ?_)
      clear hK K ho hb hf
      try simp only [Act.put, List.setIfInBounds_toArray, List.set_cons_zero, List.set_cons_succ, List.getElem_toArray, List.getElem_cons_zero, List.getElem_cons_succ]
      refine wpAnyH_take (i := 6) (v := ?_) rfl (by kernel_rfl) (by kernel_rfl) (by kernel_rfl) (fun _ _ _ h => h) (Or.inl ⟨by rfl, ?_⟩) (by assumption) ?_
      rotate_left
      · (intro w hSw; (try dsimp only at hSw); go_simp; try (with_reducible rfl))
      try simp only [Act.put, List.setIfInBounds_toArray, List.set_cons_zero, List.set_cons_succ, List.getElem_toArray, List.getElem_cons_zero, List.getElem_cons_succ]
      refine wpAnyH_ready (rs := [5]) (by kernel_rfl) (by simp) ?_
      refine AllReadyH.cons rfl (fun K hK => ?_) AllReadyH.nil
      go_simp
      refine (HCT.out _ HA1.out.2.2).mono ?_
      rintro r x2 ⟨⟨v, rfl, ho⟩, hb⟩
      obtain ⟨p2, c2, rfl, -, -, hf⟩ := own_kind' ho
      obtain ⟨HA2⟩ : Nonempty (Hid (AX w x2 B _ _)) := ⟨HA1.out.on hb⟩
      obtain ⟨HP2⟩ : Nonempty (Hid (World.ownsRow x2 (B + 2) 3 1 (.slice p1 P.length c1) P.length (P.map intV))) := ⟨aOwn_below HP1.out hb⟩
      obtain ⟨HT2⟩ : Nonempty (Hid (∃ S, World.ownsRow x2 S 3 1 (.slice p2 T.length c2) T.length (T.map intV) ∧ B + 2 ≤ S ∧ (∀ b o, p1 = some ⟨b, o, none⟩ → b < S) ∧ S ≤ x2.heap.size)) := ⟨⟨_, ho, (Array.getElem?_eq_some_iff.1 HA1.out.2.1).1, fun b o e => (HP1.out.lt b (by rw [e]; rfl)).2, hb.size⟩⟩
      refine hK.out _ _ trivial (fun hHeld => ?_)
      clear hK K ho hb hf
      try simp only [Act.put, List.setIfInBounds_toArray, List.set_cons_zero, List.set_cons_succ, List.getElem_toArray, List.getElem_cons_zero, List.getElem_cons_succ]
      refine wpAnyH_ready (rs := [7]) (by kernel_rfl) (by simp) ?_
      refine AllReadyH.cons rfl (fun K hK => ?_) AllReadyH.nil
      obtain ⟨a0, a1, a2, a3, a4⟩ := HA2.out.arg
      have z0 := (HA2.out.soft 0).1
      go_simp
      obtain ⟨x3, hx3⟩ : ∃ x, Hid (x2.setCell ⟨B, 0, none⟩ (.slice p1 P.length c1) = x) := ⟨_, show _ = _ from rfl⟩
      rw [show x2.setCell ⟨B, 0, none⟩ (.slice p1 P.length c1) = x3 from hx3.out]
      obtain ⟨HA3⟩ : Nonempty (Hid (AX w x3 B _ _)) := ⟨by rw [← hx3.out]; exact HA2.out.set 0 (.slice p1 P.length c1)⟩
      obtain ⟨HP3⟩ : Nonempty (Hid (World.ownsRow x3 (B + 2) 3 1 (.slice p1 P.length c1) P.length (P.map intV))) := ⟨by rw [← hx3.out]; exact own_set HP2.out (by omega) _ _⟩
      obtain ⟨HT3⟩ : Nonempty (Hid (∃ S, World.ownsRow x3 S 3 1 (.slice p2 T.length c2) T.length (T.map intV) ∧ B + 2 ≤ S ∧ (∀ b o, p1 = some ⟨b, o, none⟩ → b < S) ∧ S ≤ x3.heap.size)) := ⟨by
          obtain ⟨S, s1, s2, s3, s4⟩ := HT2.out
          rw [← hx3.out]; exact ⟨S, own_set s1 (by omega) _ _, s2, s3, by simpa [World.setCell] using s4⟩⟩
      refine hK.out _ _ trivial (fun hHeld => ?_)
      clear hK K a0 a1 a2 a3 a4 z0
      try simp only [Act.put, List.setIfInBounds_toArray, List.set_cons_zero, List.set_cons_succ, List.getElem_toArray, List.getElem_cons_zero, List.getElem_cons_succ]
      refine wpAnyH_take (i := 8) (v := ?_) rfl (by kernel_rfl) (by kernel_rfl) (by kernel_rfl) (fun _ _ _ h => h) (Or.inl ⟨by rfl, ?_⟩) (by assumption) ?_
      rotate_left
      · (intro w hSw; (try dsimp only at hSw); go_simp; try (with_reducible rfl))
      try simp only [Act.put, List.setIfInBounds_toArray, List.set_cons_zero, List.set_cons_succ, List.getElem_toArray, List.getElem_cons_zero, List.getElem_cons_succ]
      refine wpAnyH_ready (rs := [9]) (by kernel_rfl) (by simp) ?_
      refine AllReadyH.cons rfl (fun K hK => ?_) AllReadyH.nil
      obtain ⟨a0, a1, a2, a3, a4⟩ := HA3.out.arg
      have z4 := (HA3.out.soft 4).1
      go_simp
      obtain ⟨x4, hx4⟩ : ∃ x, Hid (x3.setCell ⟨B, 4, none⟩ (.slice p2 T.length c2) = x) := ⟨_, show _ = _ from rfl⟩
      rw [show x3.setCell ⟨B, 4, none⟩ (.slice p2 T.length c2) = x4 from hx4.out]
      obtain ⟨HA4⟩ : Nonempty (Hid (AX w x4 B _ _)) := ⟨by rw [← hx4.out]; exact HA3.out.set 4 (.slice p2 T.length c2)⟩
      obtain ⟨HP4⟩ : Nonempty (Hid (World.ownsRow x4 (B + 2) 3 1 (.slice p1 P.length c1) P.length (P.map intV))) := ⟨by rw [← hx4.out]; exact own_set HP3.out (by omega) _ _⟩
      obtain ⟨HT4⟩ : Nonempty (Hid (∃ S, World.ownsRow x4 S 3 1 (.slice p2 T.length c2) T.length (T.map intV) ∧ B + 2 ≤ S ∧ (∀ b o, p1 = some ⟨b, o, none⟩ → b < S) ∧ S ≤ x4.heap.size)) := ⟨by
          obtain ⟨S, s1, s2, s3, s4⟩ := HT3.out
          rw [← hx4.out]; exact ⟨S, own_set s1 (by omega) _ _, s2, s3, by simpa [World.setCell] using s4⟩⟩
      refine hK.out _ _ trivial (fun hHeld => ?_)
      clear hK K a0 a1 a2 a3 a4 z4
      try simp only [Act.put, List.setIfInBounds_toArray, List.set_cons_zero, List.set_cons_succ, List.getElem_toArray, List.getElem_cons_zero, List.getElem_cons_succ]
      refine wpAnyH_done (by kernel_rfl) ?_ _
      refine NoPanic.normal ?_
      show K0 _ _
      obtain ⟨HF⟩ : Nonempty (Hid (AX w x4 B #[.slice p1 P.length c1, .int .i64 f0, .int .i64 n, .int .i64 o, .slice p2 T.length c2] #[.slice none 0 0, .int .i64 0, .int .i64 0, .int .i64 0, .slice none 0 0] ∧ CP x4 (B + 2) ⟨P, f0, n, o, T⟩ p1 c1 p2 c2)) := ⟨by
      obtain ⟨S, s1, s2, s3, s4⟩ := HT4.out
      have hh := HA4.out
      simp only [List.setIfInBounds_toArray, List.set_cons_zero, List.set_cons_succ] at hh
      exact ⟨hh, S, HP4.out, s1, s2, s3, s4⟩⟩
      refine hK0 _ _ (Met.intro (hJ0 _ _ ?_))
      (repeat apply Exists.intro)
      exact ⟨⟨x4, p1, c1, p2, c2, HF, rfl⟩, rfl⟩
  case rest =>
    obtain ⟨wx, p1, c1, p2, c2, HW, hX⟩ := hcut
    subst hX
    obtain ⟨a0, a1, a2, a3, a4⟩ := HW.out.1.arg
    obtain ⟨r0, r1, r2, r3, r4⟩ := HW.out.1.res
    have y0 := (HW.out.1.soft 0).2
    have y1 := (HW.out.1.soft 1).2
    have y2 := (HW.out.1.soft 2).2
    have y3 := (HW.out.1.soft 3).2
    have y4 := (HW.out.1.soft 4).2
    go_wp2_with fail
    refine bodyPost_ret (v := .agg #[.slice p1 P.length c1, .int .i64 f0, .int .i64 n, .int .i64 o, .slice p2 T.length c2]) (by simp [results, Try.results22, go_sem, r0, r1, r2, r3, r4]) rfl ⟨⟨p1, c1, p2, c2, rfl, ?_⟩, ?_⟩
    · obtain ⟨S, s1, s2, s3, s4, s5⟩ := HW.out.2
      refine ⟨S, ?_, own_five s2 (by omega) _ _ _ _ _, by first | omega | (rw [show w.heap.size = B from hB.out]; omega), s4, by simpa [World.setCell] using s5⟩
      have := own_five s1 (B := B + 1) (by omega) (.slice p1 P.length c1) (.int .i64 f0) (.int .i64 n) (.int .i64 o) (.slice p2 T.length c2)
      have hm : B ≤ B + 2 := by omega
      first | exact own_mono this hm | (rw [show w.heap.size = B from hB.out]; exact own_mono this hm)
    · first | exact setFive HW.out.1.2.2 (Nat.le_succ B) _ _ _ _ _ | (rw [show w.heap.size = B from hB.out]; exact setFive HW.out.1.2.2 (Nat.le_succ B) _ _ _ _ _)
theorem copy_any (v : Value) (A : At) (w : World) (h : AttrK w v A) (h1 : A.path.length ≤ 1000000) (h2 : A.tags.length ≤ 1000000) :
    Calls Try.prog 22 #[v] w fun r w' => (∃ p1 c1 p2 c2, r = .returned (.agg #[.slice p1 A.path.length c1, .int .i64 A.pref, .int .i64 A.med, .int .i64 A.org, .slice p2 A.tags.length c2]) ∧ CP w' w.heap.size A p1 c1 p2 c2) ∧ Below w.heap.size w w' := by
  obtain ⟨p, cp, q, cq, e, i1, i2, k1, k2⟩ := h
  exact copy_i v A w ⟨p, cp, q, cq, e, i1, i2⟩ h1 h2
end Go.Proofs.Ytkcacdlgmapjjaa
