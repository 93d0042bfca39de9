/-
  Routes in memory, each with where its lists lie: what a slice holds; all of a list behind a row's end.
-/
import Derived.Test.YtkcacdlgmapjjaaRouteRow
import Derived.Test.YtkcacdlgmapjjaaAttrOwn
import Derived.Laws.AppendOwnNone
import Derived.Laws.OwnMore
namespace Go.Proofs.Ytkcacdlgmapjjaa
open Go.RowKit

/-- a route's eight cells, at an address. -/
def RvCell (w : World) (b o : Nat) (r : RV) : Prop := ∀ k v, (enc8 r)[k]? = some v → w.cell? ⟨b, o + k, none⟩ = some v
theorem RvCell.below {w w' : World} {b o : Nat} {r : RV} (h : RvCell w b o r) (hb : Below w.heap.size w w') : RvCell w' b o r := fun k v hk => cell_kept hb (h k v hk)
/-- what a slice at p holds: routes. -/
def RvRow (w : World) (p : Option Addr) (L : List RV) : Prop :=
  ∀ i (h : i < L.length), ∃ b o, p = some ⟨b, o, none⟩ ∧ RvCell w b (o + i * 8) L[i]
theorem RvRow.below {w w' : World} {p : Option Addr} {L : List RV} (h : RvRow w p L) (hb : Below w.heap.size w w') : RvRow w' p L := fun i hi => by
  obtain ⟨b, o, e, c⟩ := h i hi
  exact ⟨b, o, e, c.below hb⟩
theorem rvRow_nil (w : World) (p : Option Addr) : RvRow w p [] := fun i hi => by simp at hi
theorem RvRow.take {w : World} {p : Option Addr} {L : List RV} (h : RvRow w p L) (k : Nat) : RvRow w p (L.take k) := fun i hi => by
  have hk : i < L.length := by simp at hi; omega
  obtain ⟨b, o, e, c⟩ := h i hk
  exact ⟨b, o, e, by simpa using c⟩
theorem RvRow.drop {w : World} {b o : Nat} {L : List RV} (h : RvRow w (some ⟨b, o, none⟩) L) (k : Nat) : RvRow w (some ⟨b, o + k * 8, none⟩) (L.drop k) := fun i hi => by
  have hk : k + i < L.length := by simp at hi; omega
  obtain ⟨b', o', e, c⟩ := h (k + i) hk
  simp only [Option.some.injEq, Addr.mk.injEq, and_true] at e
  obtain ⟨rfl, rfl⟩ := e
  refine ⟨b, o + k * 8, rfl, ?_⟩
  rw [show o + k * 8 + i * 8 = o + (k + i) * 8 by omega]
  simpa using c
theorem own_rvs {w : World} {B : Nat} {e : TypeId} {v : Value} {L : List RV} (h : w.ownsRow B e 8 v L.length (flat8 L)) : ∃ p cap, v = .slice p L.length cap ∧ L.length ≤ cap ∧ cap ≤ maxLen ∧ RvRow w p L ∧ (p = none → L = [] ∧ cap = 0) := by
  rcases h.2 with ⟨hv, h0⟩ | ⟨g, cap, cur, hv, hb, hg, h1, h2, h3, h4⟩
  · have : L = [] := List.eq_nil_of_length_eq_zero h0
    subst this
    exact ⟨none, 0, hv, by simp, by simp, rvRow_nil _ _, fun _ => ⟨rfl, rfl⟩⟩
  · refine ⟨some ⟨g, 0, none⟩, cap, hv, h1, h2, fun i hi => ⟨g, 0, rfl, fun k v hk => ?_⟩, fun e => by cases e⟩
    subst hv
    have hk8 : k < 8 := by have := (List.getElem?_eq_some_iff.1 hk).1; simpa [enc8] using this
    rw [Nat.zero_add, h.cellAt _ (by omega), flat8_get L i hi k hk8, hk]
theorem own_rvs2 {w : World} {B : Nat} {e : TypeId} {v : Value} {L : List RV} (h : w.ownsRow B e 8 v L.length (flat8 L)) : (v = .slice none 0 0 ∧ L = []) ∨ ∃ g cap, v = .slice (some ⟨g, 0, none⟩) L.length cap ∧ L.length ≤ cap ∧ cap ≤ maxLen ∧ RvRow w (some ⟨g, 0, none⟩) L := by
  obtain ⟨p, c, hv, h1, h2, h3, h4⟩ := own_rvs h
  rcases h.2 with ⟨hv', h0⟩ | ⟨g, cap, cur, hv', hb, hg, q1, q2, q3, q4⟩
  · exact .inl ⟨hv', List.eq_nil_of_length_eq_zero h0⟩
  · rw [hv] at hv'
    simp only [Value.slice.injEq, true_and] at hv'
    obtain ⟨rfl, rfl⟩ := hv'
    exact .inr ⟨g, c, hv, h1, h2, h3⟩
theorem flat8_ones (L : List RV) : ∀ u ∈ flat8 L, u.oneCell' = true := by
  intro u hu
  simp only [flat8, List.mem_flatMap] at hu
  obtain ⟨x, -, hu⟩ := hu
  simp only [enc8, List.mem_cons, List.not_mem_nil, or_false] at hu
  rcases hu with rfl | rfl | rfl | rfl | rfl | rfl | rfl | rfl <;> rfl
def ro0V : Value := .agg #[.int .i64 0, .int .i64 0, .slice none 0 0, .int .i64 0, .int .i64 0, .int .i64 0, .slice none 0 0, .int .i64 0]
theorem infoRv0 : (Try.prog.info? 31).map (fun i => (i.zero, i.size, i.bytes)) = some (some ro0V, 8, 96) := by kernel_rfl
theorem infoRv : ∃ i, Try.prog.info? 31 = some i ∧ i.zero = some ro0V ∧ i.size = 8 ∧ i.bytes = 96 := by
  have h := infoRv0
  cases hi : Try.prog.info? 31 with
  | none => rw [hi] at h; cases h
  | some i =>
    rw [hi] at h
    simp only [Option.map_some, Option.some.injEq, Prod.mk.injEq] at h
    exact ⟨i, rfl, h.1, h.2.1, h.2.2⟩
/-- all of a list behind a row's end. -/
theorem op_addRv {P : Program} {W : World} {o : Oper} {a : Act} {K : Act → World → Prop} {Q : Exit → Act → World → Prop} (s x : Operand) (t : TypeId)
    (ho : o.op = .call { callee := .builtin .append, args := #[s, x], argTypes := #[t, t] })
    (base : Nat) (e : TypeId) (i : TypeInfo) (ht : P.underlying t = some (.slice e)) (hi : P.info? e = some i) (hz : i.zero = some ro0V) (hsize : i.size = 8) (hby : i.bytes = 96)
    (v : Value) (O : List RV) (hs : a.eval s = v) (hown : W.ownsRow base e 8 v O.length (flat8 O)) (p : Option Addr) (M : List RV) (n c : Nat) (hx : a.eval x = .slice p n c) (hn : M.length = n) (hk : KindW p n c) (hM : RvRow W p M) (O' : List RV) (hO' : Hid (O ++ M = O'))
    (hO : O.length + M.length ≤ 1099511627776) (hbase : base ≤ W.heap.size)
    (h : ∀ v' w', w'.ownsRow base e 8 v' O'.length (flat8 O') → Below base W w' → K (a.put o.dst v') w') : o.wp P a W K Q := by
  subst hn
  rcases hk with ⟨rfl, h0, rfl⟩ | ⟨ad, rfl⟩
  · have hM0 : M = [] := List.eq_nil_of_length_eq_zero h0
    subst hM0
    rw [List.append_nil] at hO'
    have := hO'.out
    subst this
    have hrun := run_append_owned_none (P := P) (w := W) base t o.type e i 8 ht hi v O.length (flat8 O) hown
    have hx' : a.eval x = .slice none 0 0 := hx
    unfold Oper.wp
    simp [execOp, ho, resolve, invoke, builtin, hs, hx', hrun, Result.andThen]
    exact h _ _ hown (Below.refl _ _)
  · refine wp_append_own _ s x t ho base e i ro0V 8 96 ht hi hz hsize hby rfl (by decide) v O.length (flat8 O) hs hown ad M.length c (flat8 M) hx (flat8_length M) ?_ (flat8_ones M) (by unfold maxLen; omega) (by omega) hbase ?_
    · intro j u hj
      have hjl : j < M.length * 8 := by
        have := (List.getElem?_eq_some_iff.1 hj).1
        rwa [flat8_length] at this
      obtain ⟨b, o', e', c0⟩ := hM (j / 8) (by omega)
      simp only [Option.some.injEq] at e'
      subst e'
      have hm : j % 8 < 8 := Nat.mod_lt _ (by decide)
      have hj' := flat8_get M (j / 8) (by omega) (j % 8) hm
      rw [show j / 8 * 8 + j % 8 = j by omega, hj] at hj'
      have := c0 (j % 8) u hj'.symm
      rw [Addr.add_lit, show o' + j = o' + j / 8 * 8 + j % 8 by omega]
      exact this
    · intro v' w1 hown' hgrow _
      rw [← hO'.out] at h
      refine h v' w1 ?_ ((Below.refl base W).grown hgrow hbase (fun j hj => (hown.lt j hj).1))
      rw [flat8_append, List.length_append]
      exact hown'
theorem wp_addRv {P : Program} {W : World} {ops : Array Oper} {rest : List Oper} {o : Oper} {a : Act} {Q : Exit → Act → World → Prop} (hgd : o.guard = none) (s x : Operand) (t : TypeId)
    (ho : o.op = .call { callee := .builtin .append, args := #[s, x], argTypes := #[t, t] })
    (base : Nat) (e : TypeId) (i : TypeInfo) (ht : P.underlying t = some (.slice e)) (hi : P.info? e = some i) (hz : i.zero = some ro0V) (hsize : i.size = 8) (hby : i.bytes = 96)
    (v : Value) (O : List RV) (hs : a.eval s = v) (hown : W.ownsRow base e 8 v O.length (flat8 O)) (p : Option Addr) (M : List RV) (n c : Nat) (hx : a.eval x = .slice p n c) (hn : M.length = n) (hk : KindW p n c) (hM : RvRow W p M) (O' : List RV) (hO' : Hid (O ++ M = O'))
    (hO : O.length + M.length ≤ 1099511627776) (hbase : base ≤ W.heap.size)
    (h : ∀ v' w', w'.ownsRow base e 8 v' O'.length (flat8 O') → Below base W w' → wpList P ops Q rest (a.put o.dst v') w') : wpList P ops Q (o :: rest) a W :=
  wpList_plain hgd fun _ hK => op_addRv s x t ho base e i ht hi hz hsize hby v O hs hown p M n c hx hn hk hM O' hO' hO hbase fun v' w' h2 h3 => hK _ _ (h v' w' h2 h3)
end Go.Proofs.Ytkcacdlgmapjjaa
