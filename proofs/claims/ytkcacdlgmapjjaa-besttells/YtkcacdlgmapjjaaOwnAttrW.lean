/-
  The law's OwnAttr at lists that lie wherever they lie: what it returns.
-/
import Derived.Test.YtkcacdlgmapjjaaAttrOwn
namespace Go.Proofs.Ytkcacdlgmapjjaa
open Go.RowKit

theorem wp_addAllW {P : Program} {W : World} {ops : Array Oper} {rest : List Oper} {o : Oper} {a : Act} {Q : Exit → Act → World → Prop} (hgd : o.guard = none) (s x : Operand) (t : TypeId)
    (ho : o.op = .call { callee := .builtin .append, args := #[s, x], argTypes := #[t, t] })
    (base : Nat) (e : TypeId) (i : TypeInfo) (ht : P.underlying t = some (.slice e)) (hi : P.info? e = some i) (hz : i.zero = some (.int .i64 0)) (hsize : i.size = 1) (hby : i.bytes = 8)
    (v : Value) (O : List Int) (hs : a.eval s = v) (hown : W.ownsRow base e 1 v O.length (O.map intV)) (p : Option Addr) (M : List Int) (n c : Nat) (hx : a.eval x = .slice p n c) (hn : M.length = n) (hk : KindW p n c) (hM : Ints W p M) (O' : List Int) (hO' : Hid (O ++ M = O'))
    (hO : O.length + M.length ≤ 1099511627776) (hbase : base ≤ W.heap.size)
    (h : ∀ v' w', w'.ownsRow base e 1 v' O'.length (O'.map intV) → Below base W w' → wpList P ops Q rest (a.put o.dst v') w') : wpList P ops Q (o :: rest) a W := by
  subst hn
  rcases hk with ⟨rfl, h0, rfl⟩ | ⟨ad, rfl⟩
  · have hM0 : M = [] := List.eq_nil_of_length_eq_zero h0
    subst hM0
    rw [List.append_nil] at hO'
    have := hO'.out
    subst this
    exact wpList_append_own_none hgd s x t ho base e i 1 ht hi v O.length (O.map intV) hs hown hx (h v W hown (Below.refl _ _))
  · refine wpList_append_own _ hgd s x t ho base e i (.int .i64 0) 1 8 ht hi hz hsize hby rfl (by decide) v O.length (O.map intV) hs hown ad M.length c (M.map intV) hx (by simp) ?_ (ints_one M) (by unfold maxLen; omega) (by omega) hbase ?_
    · intro j u hj
      have hjl : j < M.length := by
        have := (List.getElem?_eq_some_iff.1 hj).1
        simpa using this
      obtain ⟨b, o', e', c0⟩ := hM j hjl
      simp only [Option.some.injEq] at e'
      subst e'
      rw [show (⟨b, o', none⟩ : Addr).add j = ⟨b, o' + j, none⟩ by unfold Addr.add; split <;> simp_all, c0]
      simp [hjl] at hj
      rw [← hj]; rfl
    · intro v' w1 hown' hgrow _
      rw [← hO'.out] at h
      refine h v' w1 ?_ ((Below.refl base W).grown hgrow hbase (fun j hj => (hown.lt j hj).1))
      rw [List.map_append, List.length_append]
      exact hown'


set_option linter.unusedVariables false in
set_option maxRecDepth 100000 in
set_option maxHeartbeats 4000000 in
theorem ownAttr_w (v : Value) (A : At) (w : World) (h : AttrW w v A) (h1 : A.path.length ≤ 1000000) (h2 : A.tags.length ≤ 1000000) :
    Calls Try.prog 20 #[v] w fun r w' => (∃ v', r = .returned v' ∧ AttrF w' v' A w.heap.size) ∧ Below w.heap.size w w' := by
  obtain ⟨p, cp, q, cq, rfl, i1, i2, k1, k2⟩ := h
  obtain ⟨P, f, m, o, T⟩ := A
  simp only at *
  obtain ⟨i0, hi, hz0, hz1, hz2⟩ := info_parts infoInt
  obtain ⟨HK⟩ : Nonempty (Hid (Ints w p P ∧ Ints w q T ∧ KindW p P.length cp ∧ KindW q T.length cq)) := ⟨⟨i1, i2, k1, k2⟩⟩
  clear i1 i2 k1 k2
  go_enter Try.func20, Try.ntmps20
  go_wp2_with (at_builtin; refine wp_addAllW rfl _ _ 27 rfl _ 3 i0 Try.underlying27 hi hz0 hz1 hz2 _ [] rfl (World.ownsRow_nil _ _ _ _) p P _ cp rfl rfl HK.out.2.2.1 (HK.out.1.below (below_two _ _ _)) P (show _ = _ from rfl) (by simp; omega) (Nat.le_refl _) ?_)
  intro v1 w1 ho1 hb1
  obtain ⟨p1, cp1, rfl, k1, hi1, hf1⟩ := own_kind' ho1
  have hx := (ax_start w _ _).on (hb1.mono (by simp))
  obtain ⟨a0, a1, a2, a3, a4⟩ := hx.arg
  have z0 := (hx.soft 0).1
  obtain ⟨H1⟩ : Nonempty (Hid (AX w w1 w.heap.size _ _ ∧ Ints w1 p1 P ∧ Kind1 p1 P.length cp1 ∧ ∀ b o, p1 = some ⟨b, o, none⟩ → w.heap.size + 1 < b)) := ⟨⟨hx, hi1, k1, fun b o e => by have := hf1 b o e; (try simp at this); omega⟩⟩
  clear ho1 hb1 k1 hi1 hf1 hx
  obtain ⟨B, hB⟩ : ∃ B, Hid (w.heap.size = B) := ⟨_, show _ = _ from rfl⟩
  rw [show w.heap.size = B from hB.out] at a0 a1 a2 a3 a4 z0 H1 ⊢
  obtain ⟨HQ⟩ : Nonempty (Hid (Ints (w1.setCell ⟨B, 0, none⟩ (.slice p1 P.length cp1)) q T)) := ⟨HK.out.2.1.below (by have := (H1.out.1.set 0 (.slice p1 P.length cp1)).2.2; rw [← show w.heap.size = B from hB.out] at this ⊢; exact this)⟩
  go_wp2_with (at_builtin; refine wp_addAllW rfl _ _ 27 rfl _ 3 i0 Try.underlying27 hi hz0 hz1 hz2 _ [] rfl (World.ownsRow_nil _ _ _ _) q T _ cq rfl rfl HK.out.2.2.2 HQ.out T (show _ = _ from rfl) (by simp; omega) (Nat.le_refl _) ?_)
  intro v2 w2 ho2 hb2
  obtain ⟨p2, cp2, rfl, k2, hi2, hf2⟩ := own_kind' ho2
  have hlt : B + 1 < w1.heap.size := (Array.getElem?_eq_some_iff.1 H1.out.1.2.1).1
  have hb3 : Below (w1.setCell ⟨B, 0, none⟩ (.slice p1 P.length cp1)).heap.size (w1.setCell ⟨B, 0, none⟩ (.slice p1 P.length cp1)) w2 := hb2.mono (by simp)
  have hx : AX w w2 B #[.slice p1 P.length cp1, .int .i64 f, .int .i64 m, .int .i64 o, .slice q T.length cq] _ := (H1.out.1.set 0 (.slice p1 P.length cp1)).on hb3
  obtain ⟨H2⟩ : Nonempty (Hid (AX w w2 B _ _ ∧ Ints w2 p1 P ∧ Ints w2 p2 T ∧ Kind1 p1 P.length cp1 ∧ Kind1 p2 T.length cp2 ∧ (∀ b o, p1 = some ⟨b, o, none⟩ → B + 1 < b) ∧ (∀ b o, p2 = some ⟨b, o, none⟩ → B + 1 < b))) := ⟨⟨hx, (H1.out.2.1.set (fun b o e => by have := H1.out.2.2.2 b o e; omega) 0 _).below hb3, hi2, H1.out.2.2.1, k2, H1.out.2.2.2, fun b o e => by have := hf2 b o e; (try simp at this); omega⟩⟩
  clear a0 a1 a2 a3 a4 z0
  obtain ⟨a0, a1, a2, a3, a4⟩ := hx.arg
  obtain ⟨r0, r1, r2, r3, r4⟩ := hx.res
  have z4 := (hx.soft 4).1
  have y0 := (hx.soft 0).2
  have y1 := (hx.soft 1).2
  have y2 := (hx.soft 2).2
  have y3 := (hx.soft 3).2
  have y4 := (hx.soft 4).2
  clear ho2 hb2 k2 hi2 hf2 hlt hb3 hx H1 HQ
  go_wp2_with fail
  obtain ⟨HX, j1, j2, k1, k2, n1, n2⟩ := H2.out
  have n1' : ∀ b o, p1 = some ⟨b, o, none⟩ → B < b := fun b o e => by have := n1 b o e; omega
  have n2' : ∀ b o, p2 = some ⟨b, o, none⟩ → B < b := fun b o e => by have := n2 b o e; omega
  refine bodyPost_ret (v := .agg #[.slice p1 P.length cp1, .int .i64 f, .int .i64 m, .int .i64 o, .slice p2 T.length cp2]) (by simp [results, Try.results20, go_sem, r0, r1, r2, r3, r4]) rfl ⟨⟨_, rfl, p1, cp1, p2, cp2, rfl, ?_, ?_, k1, k2, fun b o e => by have := n1 b o e; rw [show w.heap.size = B from hB.out]; omega, fun b o e => by have := n2 b o e; rw [show w.heap.size = B from hB.out]; omega⟩, ?_⟩
  · exact (((((j1.set n1' _ _).set n1 _ _).set n1 _ _).set n1 _ _).set n1 _ _).set n1 _ _
  · exact (((((j2.set n2' _ _).set n2 _ _).set n2 _ _).set n2 _ _).set n2 _ _).set n2 _ _
  · rw [show w.heap.size = B from hB.out]
    exact (((((HX.2.2.setCell (by simp) _).setCell (by simp) _).setCell (by simp) _).setCell (by simp) _).setCell (by simp) _).setCell (by simp) _
end Go.Proofs.Ytkcacdlgmapjjaa
