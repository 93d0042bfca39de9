/-
  Rows of entries in memory (a prefix's two numbers, a hop): what a slice holds; one more at a row's end.
-/
import Derived.Test.YthehpnhjfnenoabDoorFibTree
import Derived.Laws.OwnMore
import Derived.OwnWalk
namespace Go.Proofs.YthehpnhjfnenoabDoor
open Go.RowKit

def enc3 (x : Ent) : List Value := [.int .i64 x.1.1, .int .i64 x.1.2, .int .i64 x.2]
def flat3 (L : List Ent) : List Value := L.flatMap enc3
theorem flat3_cons (x : Ent) (L : List Ent) : flat3 (x :: L) = .int .i64 x.1.1 :: .int .i64 x.1.2 :: .int .i64 x.2 :: flat3 L := rfl
theorem flat3_append (L M : List Ent) : flat3 (L ++ M) = flat3 L ++ flat3 M := by simp [flat3]
theorem flat3_one (x : Ent) : flat3 [x] = [.int .i64 x.1.1, .int .i64 x.1.2, .int .i64 x.2] := rfl
theorem flat3_length (L : List Ent) : (flat3 L).length = L.length * 3 := by
  induction L with
  | nil => rfl
  | cons x L ih => rw [flat3_cons]; simp only [List.length_cons, ih]; omega
theorem flat3_get (L : List Ent) (i : Nat) (h : i < L.length) : (flat3 L)[i * 3]? = some (.int .i64 L[i].1.1) ∧ (flat3 L)[i * 3 + 1]? = some (.int .i64 L[i].1.2) ∧ (flat3 L)[i * 3 + 2]? = some (.int .i64 L[i].2) := by
  induction L generalizing i with
  | nil => simp at h
  | cons x L ih =>
    rw [flat3_cons]
    cases i with
    | zero => simp
    | succ i =>
      have := ih i (by simp at h; omega)
      rw [show (i + 1) * 3 = i * 3 + 1 + 1 + 1 by omega, show i * 3 + 1 + 1 + 1 + 1 = (i * 3 + 1) + 1 + 1 + 1 by omega, show i * 3 + 1 + 1 + 1 + 2 = (i * 3 + 2) + 1 + 1 + 1 by omega]
      simpa using this
/-- what a slice at p holds: entries. -/
def Ents (w : World) (p : Option Addr) (L : List Ent) : Prop :=
  ∀ i (h : i < L.length), ∃ b o, p = some ⟨b, o, none⟩ ∧ w.cell? ⟨b, o + i * 3, none⟩ = some (.int .i64 L[i].1.1) ∧ w.cell? ⟨b, o + i * 3 + 1, none⟩ = some (.int .i64 L[i].1.2) ∧ w.cell? ⟨b, o + i * 3 + 2, none⟩ = some (.int .i64 L[i].2)
theorem Ents.below {w w' : World} {p : Option Addr} {L : List Ent} (h : Ents w p L) (hb : Below w.heap.size w w') : Ents w' p L := fun i hi => by
  obtain ⟨b, o, e, c0, c1, c2⟩ := h i hi
  exact ⟨b, o, e, cell_kept hb c0, cell_kept hb c1, cell_kept hb c2⟩
theorem Ents.kept {F : List Nat} {w w' : World} {p : Option Addr} {L : List Ent} (h : Ents w p L) (hk : Kept F w w') (hp : ∀ b o, p = some ⟨b, o, none⟩ → b ∉ F) : Ents w' p L := fun i hi => by
  obtain ⟨b, o, e, c0, c1, c2⟩ := h i hi
  have hn := hp b o e
  exact ⟨b, o, e, hk.cell c0 hn, hk.cell c1 hn, hk.cell c2 hn⟩
theorem ents_nil (w : World) (p : Option Addr) : Ents w p [] := fun i hi => by simp at hi
theorem own_ents {w : World} {B : Nat} {e : TypeId} {v : Value} {L : List Ent} (h : w.ownsRow B e 3 v L.length (flat3 L)) : ∃ p cap, v = .slice p L.length cap ∧ L.length ≤ cap ∧ cap ≤ maxLen ∧ Ents w p L := by
  rcases h.2 with ⟨hv, h0⟩ | ⟨g, cap, cur, hv, hb, hg, h1, h2, h3, h4⟩
  · have : L = [] := List.eq_nil_of_length_eq_zero h0
    subst this
    exact ⟨none, 0, hv, by simp, by simp, ents_nil _ _⟩
  · refine ⟨some ⟨g, 0, none⟩, cap, hv, h1, h2, fun i hi => ⟨g, 0, rfl, ?_⟩⟩
    subst hv
    have f := flat3_get L i hi
    rw [Nat.zero_add, h.cellAt _ (by omega), h.cellAt _ (by omega), h.cellAt _ (by omega)]
    exact f
theorem info_parts3 {P : Program} {e : TypeId} {z : Value} {s b : Nat} (h : (P.info? e).map (fun i => (i.zero, i.size, i.bytes)) = some (some z, s, b)) : ∃ i, P.info? e = some i ∧ i.zero = some z ∧ i.size = s ∧ i.bytes = b := by
  cases hi : P.info? e with
  | none => rw [hi] at h; cases h
  | some i =>
    rw [hi] at h
    simp only [Option.map_some, Option.some.injEq, Prod.mk.injEq] at h
    exact ⟨i, rfl, h.1, h.2.1, h.2.2⟩
theorem infoFEnt : (Tryd.prog.info? 44).map (fun i => (i.zero, i.size, i.bytes)) = some (some (.agg #[.int .i64 0, .int .i64 0, .int .i64 0]), 3, 24) := by kernel_rfl
theorem rel_row3 {B : Nat} {e : TypeId} {w wr w1 : World} {v v' : Value} {o : Obj} {O : List Ent} {x : Ent} (hB : B ≤ wr.heap.size)
    (hown : wr.ownsRow B e 3 v O.length (flat3 O)) (hnx : Below B w wr)
    (hown' : w1.ownsRow B e 3 v' (O.length + 1) (flat3 O ++ [.int .i64 x.1.1, .int .i64 x.1.2, .int .i64 x.2])) (hgrow : (wr.alloc o).grownBy w1 v.ownBlock) :
    w1.ownsRow B e 3 v' (O ++ [x]).length (flat3 (O ++ [x])) ∧ Below B w w1 :=
  ⟨by rw [flat3_append, flat3_one]; simpa using hown', (hnx.alloc hB o).grown hgrow (by simp; omega) (fun j hj => (hown.lt j hj).1)⟩
/-- one more entry at a row's end. -/
theorem op_push3 {P : Program} {W : World} {o : Oper} {a : Act} {K : Act → World → Prop} {Q : Exit → Act → World → Prop} (s x : Operand) (t : TypeId)
    (ho : o.op = .call { callee := .builtin .append, args := #[s, x], argTypes := #[t, t] })
    (base : Nat) (e : TypeId) (i : TypeInfo) (ht : P.underlying t = some (.slice e)) (hi : P.info? e = some i) (hz : i.zero = some (.agg #[.int .i64 0, .int .i64 0, .int .i64 0])) (hsize : i.size = 3) (hby : i.bytes = 24)
    (v : Value) (O : List Ent) (hs : a.eval s = v) (hown : W.ownsRow base e 3 v O.length (flat3 O)) (x0 x1 x2 : Int) (g : Nat) (hx : a.eval x = .slice (some ⟨g, 0, none⟩) 1 1) (hg : W.heap.size = g) (O' : List Ent) (hO' : Hid (O ++ [((x0, x1), x2)] = O'))
    (hO : O.length ≤ 1099511627776) (hbase : base ≤ W.heap.size)
    (h : ∀ v' w', w'.ownsRow base e 3 v' O'.length (flat3 O') → Below base W w' → K (a.put o.dst v') w') : o.wp P a (W.alloc (.cells #[.int .i64 x0, .int .i64 x1, .int .i64 x2] e)) K Q := by
  subst hg
  refine wp_append_own _ s x t ho base e i (.agg #[.int .i64 0, .int .i64 0, .int .i64 0]) 3 24 ht hi hz hsize hby rfl (by decide) v O.length (flat3 O) hs (hown.alloc _) ⟨W.heap.size, 0, none⟩ 1 1 [.int .i64 x0, .int .i64 x1, .int .i64 x2] hx rfl ?_ ?_ ?_ ?_ ?_ ?_
  · intro j u hj
    match j, hj with
    | 0, hj => simp at hj; subst hj; simp [Addr.add]
    | 1, hj => simp at hj; subst hj; simp [Addr.add]
    | 2, hj => simp at hj; subst hj; simp [Addr.add]
  · intro u hu; simp at hu; rcases hu with rfl | rfl | rfl <;> rfl
  · unfold maxLen; omega
  · omega
  · simp; omega
  · intro v' w1 hown' hgrow hnn
    rw [← hO'.out] at h
    have R := rel_row3 (x := ((x0, x1), x2)) hbase hown (Below.refl base W) hown' hgrow
    exact h v' w1 R.1 R.2
theorem wp_push3 {P : Program} {W : World} {ops : Array Oper} {rest : List Oper} {o : Oper} {a : Act} {Q : Exit → Act → World → Prop} (hgd : o.guard = none) (s x : Operand) (t : TypeId)
    (ho : o.op = .call { callee := .builtin .append, args := #[s, x], argTypes := #[t, t] })
    (base : Nat) (e : TypeId) (i : TypeInfo) (ht : P.underlying t = some (.slice e)) (hi : P.info? e = some i) (hz : i.zero = some (.agg #[.int .i64 0, .int .i64 0, .int .i64 0])) (hsize : i.size = 3) (hby : i.bytes = 24)
    (v : Value) (O : List Ent) (hs : a.eval s = v) (hown : W.ownsRow base e 3 v O.length (flat3 O)) (x0 x1 x2 : Int) (g : Nat) (hx : a.eval x = .slice (some ⟨g, 0, none⟩) 1 1) (hg : W.heap.size = g) (O' : List Ent) (hO' : Hid (O ++ [((x0, x1), x2)] = O'))
    (hO : O.length ≤ 1099511627776) (hbase : base ≤ W.heap.size)
    (h : ∀ v' w', w'.ownsRow base e 3 v' O'.length (flat3 O') → Below base W w' → wpList P ops Q rest (a.put o.dst v') w') : wpList P ops Q (o :: rest) a (W.alloc (.cells #[.int .i64 x0, .int .i64 x1, .int .i64 x2] e)) :=
  wpList_plain hgd fun _ hK => op_push3 s x t ho base e i ht hi hz hsize hby v O hs hown x0 x1 x2 g hx hg O' hO' hO hbase fun v' w' h2 h3 => hK _ _ (h v' w' h2 h3)
end Go.Proofs.YthehpnhjfnenoabDoor
