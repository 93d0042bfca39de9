/-
  A copy of an attribute of its own (herepathlaw1.OwnAttr).
-/
import Derived.Test.YtkcacdlgmapjjaaAttrRef1
import Derived.Test.YtkcacdlgmapjjaaAttrNums
import Derived.Laws.AppendOwnNone
import Derived.Laws.OwnMore
namespace Go.Proofs.Ytkcacdlgmapjjaa
open Go.RowKit

/-- a slice's value as a program makes it: none of none, or one in a block. -/
def Kind1 (p : Option Addr) (n c : Nat) : Prop := (p = none ∧ n = 0 ∧ c = 0) ∨ ((∃ b o, p = some ⟨b, o, none⟩) ∧ n ≤ c ∧ c ≤ maxLen)
theorem ints_one (L : List Int) : ∀ u ∈ L.map intV, u.oneCell' = true := by
  intro u hu
  simp [intV] at hu
  obtain ⟨a, -, rfl⟩ := hu
  rfl
/-- all of a list of numbers behind a row's end. -/
theorem wp_addAll1 {P : Program} {W : World} {ops : Array Oper} {rest : List Oper} {o : Oper} {a : Act} {Q : Exit → Act → World → Prop} (hgd : o.guard = none) (s x : Operand) (t : TypeId)
    (ho : o.op = .call { callee := .builtin .append, args := #[s, x], argTypes := #[t, t] })
    (base : Nat) (e : TypeId) (i : TypeInfo) (ht : P.underlying t = some (.slice e)) (hi : P.info? e = some i) (hz : i.zero = some (.int .i64 0)) (hsize : i.size = 1) (hby : i.bytes = 8)
    (v : Value) (O : List Int) (hs : a.eval s = v) (hown : W.ownsRow base e 1 v O.length (O.map intV)) (p : Option Addr) (M : List Int) (n c : Nat) (hx : a.eval x = .slice p n c) (hn : M.length = n) (hk : Kind1 p n c) (hM : Ints W p M) (O' : List Int) (hO' : Hid (O ++ M = O'))
    (hO : O.length + M.length ≤ 1099511627776) (hbase : base ≤ W.heap.size)
    (h : ∀ v' w', w'.ownsRow base e 1 v' O'.length (O'.map intV) → Below base W w' → wpList P ops Q rest (a.put o.dst v') w') : wpList P ops Q (o :: rest) a W := by
  subst hn
  rcases hk with ⟨rfl, h0, rfl⟩ | ⟨⟨b0, o0, rfl⟩, -, -⟩
  · have hM0 : M = [] := List.eq_nil_of_length_eq_zero h0
    subst hM0
    rw [List.append_nil] at hO'
    have := hO'.out
    subst this
    exact wpList_append_own_none hgd s x t ho base e i 1 ht hi v O.length (O.map intV) hs hown hx (h v W hown (Below.refl _ _))
  · refine wpList_append_own _ hgd s x t ho base e i (.int .i64 0) 1 8 ht hi hz hsize hby rfl (by decide) v O.length (O.map intV) hs hown ⟨b0, o0, none⟩ M.length c (M.map intV) hx (by simp) ?_ (ints_one M) (by unfold maxLen; omega) (by omega) hbase ?_
    · intro j u hj
      have hjl : j < M.length := by
        have := (List.getElem?_eq_some_iff.1 hj).1
        simpa using this
      obtain ⟨b, o', e', c0⟩ := hM j hjl
      simp only [Option.some.injEq, Addr.mk.injEq, and_true] at e'
      obtain ⟨e1, e2⟩ := e'
      rw [← e1, ← e2] at c0
      have hadd : (⟨b0, o0, none⟩ : Addr).add j = ⟨b0, o0 + j, none⟩ := by
        unfold Addr.add
        split
        · rename_i h; subst h; rfl
        · rfl
      rw [hadd]
      simp [hjl, intV] at hj
      rw [← hj]
      exact c0
    · intro v' w1 hown' hgrow _
      rw [← hO'.out] at h
      refine h v' w1 ?_ ((Below.refl base W).grown hgrow hbase (fun j hj => (hown.lt j hj).1))
      rw [List.map_append, List.length_append]
      exact hown'

/-- a value that holds an attribute, its slices as a program makes them. -/
def AttrK (w : World) (v : Value) (A : At) : Prop :=
  ∃ p cp q cq, v = .agg #[.slice p A.path.length cp, .int .i64 A.pref, .int .i64 A.med, .int .i64 A.org, .slice q A.tags.length cq] ∧ Ints w p A.path ∧ Ints w q A.tags ∧ Kind1 p A.path.length cp ∧ Kind1 q A.tags.length cq
theorem AttrK.attr {w : World} {v : Value} {A : At} (h : AttrK w v A) : IsAttr w v A := by
  obtain ⟨p, cp, q, cq, e, h1, h2, -, -⟩ := h
  exact ⟨p, cp, q, cq, e, h1, h2⟩
theorem AttrK.below {w w' : World} {v : Value} {A : At} (h : AttrK w v A) (hb : Below w.heap.size w w') : AttrK w' v A := by
  obtain ⟨p, cp, q, cq, e, h1, h2, h3, h4⟩ := h
  exact ⟨p, cp, q, cq, e, h1.below hb, h2.below hb, h3, h4⟩
theorem aOwn_kind {w : World} {B : Nat} {e : TypeId} {v : Value} {L : List Int} (h : w.ownsRow B e 1 v L.length (L.map intV)) : ∃ p cap, v = .slice p L.length cap ∧ Kind1 p L.length cap ∧ Ints w p L := by
  obtain ⟨p, cap, e1, l1, l2, hi⟩ := own_ints h
  rcases h.2 with ⟨hv, h0⟩ | ⟨g, cap', cur, hv, -⟩
  · refine ⟨p, cap, e1, .inl ?_, hi⟩
    rw [e1] at hv
    simp only [Value.slice.injEq] at hv
    exact ⟨hv.1, hv.2.1, hv.2.2⟩
  · refine ⟨p, cap, e1, .inr ⟨?_, l1, l2⟩, hi⟩
    rw [e1] at hv
    simp only [Value.slice.injEq] at hv
    exact ⟨_, _, hv.1⟩

theorem own_kind' {w : World} {B : Nat} {e : TypeId} {v : Value} {L : List Int} (h : w.ownsRow B e 1 v L.length (L.map intV)) : ∃ p cap, v = .slice p L.length cap ∧ Kind1 p L.length cap ∧ Ints w p L ∧ ∀ b o, p = some ⟨b, o, none⟩ → B ≤ b := by
  obtain ⟨p, cap, e1, hk, hi⟩ := aOwn_kind h
  refine ⟨p, cap, e1, hk, hi, fun b o e2 => ?_⟩
  subst e1 e2
  rcases h.2 with ⟨hv, h0⟩ | ⟨g, cap', cur, hv, hb, -⟩
  · simp at hv
  · simp only [Value.slice.injEq, Option.some.injEq, Addr.mk.injEq] at hv
    obtain ⟨⟨rfl, -⟩, -⟩ := hv
    exact hb
theorem Ints.set {w : World} {p : Option Addr} {L : List Int} (h : Ints w p L) {B : Nat} (hne : ∀ b o, p = some ⟨b, o, none⟩ → B < b) (k : Nat) (u : Value) : Ints (w.setCell ⟨B, k, none⟩ u) p L := fun i hi => by
  obtain ⟨b, o, e, c⟩ := h i hi
  have := hne b o e
  exact ⟨b, o, e, by rw [World.cell?_setCell_other _ _ _ _ (by intro he; simp at he <;> omega)]; exact c⟩
/-- two attributes' places: the argument's copy and the answer. -/
def AX (w wr : World) (B : Nat) (va vr : Array Value) : Prop :=
  wr.heap[B]? = some (.cells va 29 (0, 0)) ∧ wr.heap[B + 1]? = some (.cells vr 29 (0, 0)) ∧ Below B w wr
theorem AX.on {w wr w' : World} {B : Nat} {va vr : Array Value} (h : AX w wr B va vr) (hb : Below wr.heap.size wr w') : AX w w' B va vr := by
  obtain ⟨a, b, c⟩ := h
  have l1 := (Array.getElem?_eq_some_iff.1 a).1
  have l2 := (Array.getElem?_eq_some_iff.1 b).1
  exact ⟨by rw [hb.block B l1]; exact a, by rw [hb.block (B + 1) l2]; exact b, c.trans (hb.mono (Nat.le_of_lt l1))⟩
theorem ax_start (w : World) (va vr : Array Value) : AX w ((w.alloc (.cells va 29)).alloc (.cells vr 29)) w.heap.size va vr := by
  have a : (w.alloc (.cells va 29)).heap[w.heap.size]? = some (.cells va 29 (0, 0)) := Go.heap_alloc_new w _
  have l1 := (Array.getElem?_eq_some_iff.1 a).1
  have b := Go.heap_alloc_new (w.alloc (.cells va 29)) (.cells vr 29)
  have hs : (w.alloc (.cells va 29)).heap.size = w.heap.size + 1 := by simp
  rw [hs] at b
  exact ⟨by rw [(below_alloc (w.alloc (.cells va 29)) _).block _ l1]; exact a, b, below_two _ _ _⟩
theorem AX.set {w wr : World} {B : Nat} {va vr : Array Value} (h : AX w wr B va vr) (k : Nat) (u : Value) : AX w (wr.setCell ⟨B, k, none⟩ u) B (va.setIfInBounds k u) vr :=
  ⟨heap_setCell_same wr B k va _ u h.1, by rw [Below.heap_setCell _ _ _ _ (by simp)]; exact h.2.1, h.2.2.setCell (Nat.le_refl _) _⟩
theorem AX.arg {w wr : World} {B : Nat} {a b c d e : Value} {vr : Array Value} (h : AX w wr B #[a, b, c, d, e] vr) : wr.cell? ⟨B, 0, none⟩ = some a ∧ wr.cell? ⟨B, 1, none⟩ = some b ∧ wr.cell? ⟨B, 2, none⟩ = some c ∧ wr.cell? ⟨B, 3, none⟩ = some d ∧ wr.cell? ⟨B, 4, none⟩ = some e := by
  refine ⟨?_, ?_, ?_, ?_, ?_⟩ <;> simp [World.cell?, h.1]
theorem AX.res {w wr : World} {B : Nat} {a b c d e : Value} {va : Array Value} (h : AX w wr B va #[a, b, c, d, e]) : wr.cell? ⟨B + 1, 0, none⟩ = some a ∧ wr.cell? ⟨B + 1, 1, none⟩ = some b ∧ wr.cell? ⟨B + 1, 2, none⟩ = some c ∧ wr.cell? ⟨B + 1, 3, none⟩ = some d ∧ wr.cell? ⟨B + 1, 4, none⟩ = some e := by
  refine ⟨?_, ?_, ?_, ?_, ?_⟩ <;> simp [World.cell?, h.2.1]
theorem AX.soft {w wr : World} {B : Nat} {va vr : Array Value} (h : AX w wr B va vr) (k : Nat) : wr.frozen? ⟨B, k, none⟩ = false ∧ wr.frozen? ⟨B + 1, k, none⟩ = false := by
  constructor <;> simp [World.frozen?, h.1, h.2.1]

/-- an attribute whose lists lie from block N on. -/
def AttrF (w : World) (v : Value) (A : At) (N : Nat) : Prop :=
  ∃ p cp q cq, v = .agg #[.slice p A.path.length cp, .int .i64 A.pref, .int .i64 A.med, .int .i64 A.org, .slice q A.tags.length cq] ∧ Ints w p A.path ∧ Ints w q A.tags ∧ Kind1 p A.path.length cp ∧ Kind1 q A.tags.length cq ∧ (∀ b o, p = some ⟨b, o, none⟩ → N ≤ b) ∧ (∀ b o, q = some ⟨b, o, none⟩ → N ≤ b)
theorem AttrF.attrK {w : World} {v : Value} {A : At} {N : Nat} (h : AttrF w v A N) : AttrK w v A := by
  obtain ⟨p, cp, q, cq, e, h1, h2, h3, h4, -, -⟩ := h
  exact ⟨p, cp, q, cq, e, h1, h2, h3, h4⟩
set_option linter.unusedVariables false in
set_option maxRecDepth 100000 in
set_option maxHeartbeats 4000000 in
theorem ownAttr_own (v : Value) (A : At) (w : World) (h : AttrK w v A) (h1 : A.path.length ≤ 1000000) (h2 : A.tags.length ≤ 1000000) :
    Calls Try.prog 20 #[v] w fun r w' => (∃ v', r = .returned v' ∧ AttrF w' v' A w.heap.size) ∧ Below w.heap.size w w' := by
  obtain ⟨p, cp, q, cq, rfl, i1, i2, k1, k2⟩ := h
  obtain ⟨P, f, m, o, T⟩ := A
  simp only at *
  obtain ⟨i0, hi, hz0, hz1, hz2⟩ := info_parts infoInt
  obtain ⟨HK⟩ : Nonempty (Hid (Ints w p P ∧ Ints w q T ∧ Kind1 p P.length cp ∧ Kind1 q T.length cq)) := ⟨⟨i1, i2, k1, k2⟩⟩
  clear i1 i2 k1 k2
  go_enter Try.func20, Try.ntmps20
  go_wp2_with (at_builtin; refine wp_addAll1 rfl _ _ 27 rfl _ 3 i0 Try.underlying27 hi hz0 hz1 hz2 _ [] rfl (World.ownsRow_nil _ _ _ _) p P _ cp rfl rfl HK.out.2.2.1 (HK.out.1.below (below_two _ _ _)) P (show _ = _ from rfl) (by simp; omega) (Nat.le_refl _) ?_)
  intro v1 w1 ho1 hb1
  obtain ⟨p1, cp1, rfl, k1, hi1, hf1⟩ := own_kind' ho1
  have hx := (ax_start w _ _).on (hb1.mono (by simp))
  obtain ⟨a0, a1, a2, a3, a4⟩ := hx.arg
  have z0 := (hx.soft 0).1
  obtain ⟨H1⟩ : Nonempty (Hid (AX w w1 w.heap.size _ _ ∧ Ints w1 p1 P ∧ Kind1 p1 P.length cp1 ∧ ∀ b o, p1 = some ⟨b, o, none⟩ → w.heap.size + 1 < b)) := ⟨⟨hx, hi1, k1, fun b o e => by have := hf1 b o e; (try simp at this); omega⟩⟩
  clear ho1 hb1 k1 hi1 hf1 hx
  obtain ⟨B, hB⟩ : ∃ B, Hid (w.heap.size = B) := ⟨_, show _ = _ from rfl⟩
  rw [show w.heap.size = B from hB.out] at a0 a1 a2 a3 a4 z0 H1 ⊢
  obtain ⟨HQ⟩ : Nonempty (Hid (Ints (w1.setCell ⟨B, 0, none⟩ (.slice p1 P.length cp1)) q T)) := ⟨HK.out.2.1.below (by have := (H1.out.1.set 0 (.slice p1 P.length cp1)).2.2; rw [← show w.heap.size = B from hB.out] at this ⊢; exact this)⟩
  go_wp2_with (at_builtin; refine wp_addAll1 rfl _ _ 27 rfl _ 3 i0 Try.underlying27 hi hz0 hz1 hz2 _ [] rfl (World.ownsRow_nil _ _ _ _) q T _ cq rfl rfl HK.out.2.2.2 HQ.out T (show _ = _ from rfl) (by simp; omega) (Nat.le_refl _) ?_)
  intro v2 w2 ho2 hb2
  obtain ⟨p2, cp2, rfl, k2, hi2, hf2⟩ := own_kind' ho2
  have hlt : B + 1 < w1.heap.size := (Array.getElem?_eq_some_iff.1 H1.out.1.2.1).1
  have hb3 : Below (w1.setCell ⟨B, 0, none⟩ (.slice p1 P.length cp1)).heap.size (w1.setCell ⟨B, 0, none⟩ (.slice p1 P.length cp1)) w2 := hb2.mono (by simp)
  have hx : AX w w2 B #[.slice p1 P.length cp1, .int .i64 f, .int .i64 m, .int .i64 o, .slice q T.length cq] _ := (H1.out.1.set 0 (.slice p1 P.length cp1)).on hb3
  obtain ⟨H2⟩ : Nonempty (Hid (AX w w2 B _ _ ∧ Ints w2 p1 P ∧ Ints w2 p2 T ∧ Kind1 p1 P.length cp1 ∧ Kind1 p2 T.length cp2 ∧ (∀ b o, p1 = some ⟨b, o, none⟩ → B + 1 < b) ∧ (∀ b o, p2 = some ⟨b, o, none⟩ → B + 1 < b))) := ⟨⟨hx, (H1.out.2.1.set (fun b o e => by have := H1.out.2.2.2 b o e; omega) 0 _).below hb3, hi2, H1.out.2.2.1, k2, H1.out.2.2.2, fun b o e => by have := hf2 b o e; (try simp at this); omega⟩⟩
  clear a0 a1 a2 a3 a4 z0
  obtain ⟨a0, a1, a2, a3, a4⟩ := hx.arg
  obtain ⟨r0, r1, r2, r3, r4⟩ := hx.res
  have z4 := (hx.soft 4).1
  have y0 := (hx.soft 0).2
  have y1 := (hx.soft 1).2
  have y2 := (hx.soft 2).2
  have y3 := (hx.soft 3).2
  have y4 := (hx.soft 4).2
  clear ho2 hb2 k2 hi2 hf2 hlt hb3 hx H1 HQ
  go_wp2_with fail
  obtain ⟨HX, j1, j2, k1, k2, n1, n2⟩ := H2.out
  have n1' : ∀ b o, p1 = some ⟨b, o, none⟩ → B < b := fun b o e => by have := n1 b o e; omega
  have n2' : ∀ b o, p2 = some ⟨b, o, none⟩ → B < b := fun b o e => by have := n2 b o e; omega
  refine bodyPost_ret (v := .agg #[.slice p1 P.length cp1, .int .i64 f, .int .i64 m, .int .i64 o, .slice p2 T.length cp2]) (by simp [results, Try.results20, go_sem, r0, r1, r2, r3, r4]) rfl ⟨⟨_, rfl, p1, cp1, p2, cp2, rfl, ?_, ?_, k1, k2, fun b o e => by have := n1 b o e; rw [show w.heap.size = B from hB.out]; omega, fun b o e => by have := n2 b o e; rw [show w.heap.size = B from hB.out]; omega⟩, ?_⟩
  · exact (((((j1.set n1' _ _).set n1 _ _).set n1 _ _).set n1 _ _).set n1 _ _).set n1 _ _
  · exact (((((j2.set n2' _ _).set n2 _ _).set n2 _ _).set n2 _ _).set n2 _ _).set n2 _ _
  · rw [show w.heap.size = B from hB.out]
    exact (((((HX.2.2.setCell (by simp) _).setCell (by simp) _).setCell (by simp) _).setCell (by simp) _).setCell (by simp) _).setCell (by simp) _
theorem ownAttr_any (v : Value) (A : At) (w : World) (h : AttrK w v A) (h1 : A.path.length ≤ 1000000) (h2 : A.tags.length ≤ 1000000) :
    Calls Try.prog 20 #[v] w fun r w' => (∃ v', r = .returned v' ∧ AttrK w' v' A) ∧ Below w.heap.size w w' :=
  (ownAttr_own v A w h h1 h2).mono fun _ _ ⟨⟨v', e, k⟩, b⟩ => ⟨⟨v', e, k.attrK⟩, b⟩
/-- a slice's value: nil, or at an address. -/
def KindW (p : Option Addr) (n c : Nat) : Prop := (p = none ∧ n = 0 ∧ c = 0) ∨ ∃ ad, p = some ad
def AttrW (w : World) (v : Value) (A : At) : Prop :=
  ∃ p cp q cq, v = .agg #[.slice p A.path.length cp, .int .i64 A.pref, .int .i64 A.med, .int .i64 A.org, .slice q A.tags.length cq] ∧ Ints w p A.path ∧ Ints w q A.tags ∧ KindW p A.path.length cp ∧ KindW q A.tags.length cq
end Go.Proofs.Ytkcacdlgmapjjaa
