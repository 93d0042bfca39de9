/-
  Rows of pairs of numbers in memory (prefixes, spans): what stands in them, one more at the end.
-/
import Derived.Test.YthehpnhjfnenoaaDoorProg
import Derived.Test.YthehpnhjfnenoaaDoorIp2
import Derived.Laws.OwnMore
import Derived.OwnWalk
namespace Go.Proofs.YthehpnhjfnenoaaDoor
open Go.RowKit

/-- a pair's two cells. -/
def encP (x : Int × Int) : List Value := [.int .i64 x.1, .int .i64 x.2]
def flat2 (L : List (Int × Int)) : List Value := L.flatMap encP
theorem flat2_nil : flat2 [] = [] := rfl
theorem flat2_cons (x : Int × Int) (L : List (Int × Int)) : flat2 (x :: L) = .int .i64 x.1 :: .int .i64 x.2 :: flat2 L := rfl
theorem flat2_append (L M : List (Int × Int)) : flat2 (L ++ M) = flat2 L ++ flat2 M := by simp [flat2]
theorem flat2_one (x : Int × Int) : flat2 [x] = [.int .i64 x.1, .int .i64 x.2] := rfl
theorem flat2_length (L : List (Int × Int)) : (flat2 L).length = L.length * 2 := by
  induction L with
  | nil => rfl
  | cons x L ih => rw [flat2_cons]; simp only [List.length_cons, ih]; omega
theorem flat2_get (L : List (Int × Int)) (i : Nat) (h : i < L.length) : (flat2 L)[i * 2]? = some (.int .i64 L[i].1) ∧ (flat2 L)[i * 2 + 1]? = some (.int .i64 L[i].2) := by
  induction L generalizing i with
  | nil => simp at h
  | cons x L ih =>
    rw [flat2_cons]
    cases i with
    | zero => simp
    | succ i =>
      have := ih i (by simp at h; omega)
      rw [show (i + 1) * 2 = i * 2 + 1 + 1 by omega, show i * 2 + 1 + 1 + 1 = (i * 2 + 1) + 1 + 1 by omega]
      simpa using this
theorem flat2_set (D : List (Int × Int)) (c : Int × Int) (m : Int) : (flat2 (D ++ [c])).set (D.length * 2 + 1) (.int .i64 m) = flat2 (D ++ [(c.1, m)]) := by
  induction D with
  | nil => rfl
  | cons x D ih =>
    rw [List.cons_append, List.cons_append, flat2_cons, flat2_cons, ← ih]
    rw [show (x :: D).length * 2 + 1 = (D.length * 2 + 1) + 1 + 1 by simp; omega]
    rfl
theorem flat2_one' (L : List (Int × Int)) : ∀ u ∈ flat2 L, u.oneCell' = true := by
  intro u hu
  simp [flat2, encP] at hu
  obtain ⟨a, b, -, rfl | rfl⟩ := hu <;> rfl

/-- what a slice at p holds: pairs. -/
def Pairs (w : World) (p : Option Addr) (L : List (Int × Int)) : Prop :=
  ∀ i (h : i < L.length), ∃ b o, p = some ⟨b, o, none⟩ ∧ w.cell? ⟨b, o + i * 2, none⟩ = some (.int .i64 L[i].1) ∧ w.cell? ⟨b, o + i * 2 + 1, none⟩ = some (.int .i64 L[i].2)
theorem Pairs.below {w w' : World} {p : Option Addr} {L : List (Int × Int)} (h : Pairs w p L) (hb : Below w.heap.size w w') : Pairs w' p L := fun i hi => by
  obtain ⟨b, o, e, c0, c1⟩ := h i hi
  exact ⟨b, o, e, cell_kept hb c0, cell_kept hb c1⟩
theorem Pairs.alloc {w : World} {p : Option Addr} {L : List (Int × Int)} (h : Pairs w p L) (o : Obj) : Pairs (w.alloc o) p L := h.below (below_alloc w o)
theorem Pairs.at {w : World} {p : Option Addr} {L : List (Int × Int)} (h : Pairs w p L) (h0 : 0 < L.length) : ∃ b o, p = some ⟨b, o, none⟩ ∧ b < w.heap.size ∧ ∀ i (h : i < L.length), w.cell? ⟨b, o + i * 2, none⟩ = some (.int .i64 L[i].1) ∧ w.cell? ⟨b, o + i * 2 + 1, none⟩ = some (.int .i64 L[i].2) := by
  obtain ⟨b, o, e, c0, c1⟩ := h 0 h0
  refine ⟨b, o, e, cell_lt' c0, fun i hi => ?_⟩
  obtain ⟨b', o', e', c0', c1'⟩ := h i hi
  rw [e] at e'
  simp only [Option.some.injEq, Addr.mk.injEq, and_true] at e'
  obtain ⟨rfl, rfl⟩ := e'
  exact ⟨c0', c1'⟩
theorem pairs_nil (w : World) (p : Option Addr) : Pairs w p [] := fun i hi => by simp at hi
/-- an owned row of pairs: its value. -/
theorem own_pairs {w : World} {B : Nat} {e : TypeId} {v : Value} {L : List (Int × Int)} (h : w.ownsRow B e 2 v L.length (flat2 L)) : ∃ p cap, v = .slice p L.length cap ∧ L.length ≤ cap ∧ cap ≤ maxLen ∧ Pairs w p L := by
  rcases h.2 with ⟨hv, h0⟩ | ⟨g, cap, cur, hv, hb, hg, h1, h2, h3, h4⟩
  · have : L = [] := List.eq_nil_of_length_eq_zero h0
    subst this
    exact ⟨none, 0, hv, by simp, by simp, pairs_nil _ _⟩
  · refine ⟨some ⟨g, 0, none⟩, cap, hv, h1, h2, fun i hi => ⟨g, 0, rfl, ?_⟩⟩
    subst hv
    have f := flat2_get L i hi
    rw [Nat.zero_add, h.cellAt _ (by omega), h.cellAt _ (by omega)]
    exact f
theorem own_last {w : World} {B : Nat} {e : TypeId} {v : Value} {D : List (Int × Int)} {c : Int × Int} (h : w.ownsRow B e 2 v (D ++ [c]).length (flat2 (D ++ [c]))) : ∃ g cap, v = .slice (some ⟨g, 0, none⟩) (D.length + 1) cap ∧ D.length + 1 ≤ cap ∧ cap ≤ maxLen ∧ B ≤ g ∧ g < w.heap.size ∧ w.cell? ⟨g, D.length * 2, none⟩ = some (.int .i64 c.1) ∧ w.cell? ⟨g, D.length * 2 + 1, none⟩ = some (.int .i64 c.2) ∧ w.frozen? ⟨g, D.length * 2 + 1, none⟩ = false := by
  rcases h.2 with ⟨hv, h0⟩ | ⟨g, cap, cur, hv, hb, hg, h1, h2, h3, h4⟩
  · simp at h0
  · simp only [List.length_append, List.length_cons, List.length_nil, Nat.zero_add] at hv h1
    subst hv
    have f := flat2_get (D ++ [c]) D.length (by simp)
    have hh := h
    simp only [List.length_append, List.length_cons, List.length_nil, Nat.zero_add] at hh
    refine ⟨g, cap, rfl, h1, h2, hb, (Array.getElem?_eq_some_iff.1 hg).1, ?_, ?_, hh.frozenAt _⟩
    · rw [hh.cellAt _ (by omega), f.1]; simp
    · rw [hh.cellAt _ (by omega), f.2]; simp
theorem rel_row {B : Nat} {e : TypeId} {w wr w1 : World} {v v' : Value} {o : Obj} {O : List (Int × Int)} {x : Int × Int} (hB : B ≤ wr.heap.size)
    (hown : wr.ownsRow B e 2 v O.length (flat2 O)) (hnx : Below B w wr)
    (hown' : w1.ownsRow B e 2 v' (O.length + 1) (flat2 O ++ [.int .i64 x.1, .int .i64 x.2])) (hgrow : (wr.alloc o).grownBy w1 v.ownBlock) :
    w1.ownsRow B e 2 v' (O ++ [x]).length (flat2 (O ++ [x])) ∧ Below B w w1 :=
  ⟨by rw [flat2_append, flat2_one]; simpa using hown', (hnx.alloc hB o).grown hgrow (by simp; omega) (fun j hj => (hown.lt j hj).1)⟩
theorem wrapN (n : Nat) (h : n ≤ 4611686018427387904) : IntKind.i64.wrap (n : Int) = (n : Int) := by rw [IntKind.wrap_i64]; omega
theorem wrapI (n : Int) (h0 : -9223372036854775808 ≤ n) (h1 : n ≤ 9223372036854775807) : IntKind.i64.wrap n = n := by rw [IntKind.wrap_i64]; omega
/-- all blocks but a row's own are as they were. -/
def Keeps (W w' : World) (v v' : Value) : Prop := (∀ k, k < W.heap.size → some k ≠ v.ownBlock → w'.heap[k]? = W.heap[k]?) ∧ v' ≠ .slice none 0 0
/-- one more pair at a row's end. -/
theorem op_push {P : Program} {W : World} {o : Oper} {a : Act} {K : Act → World → Prop} {Q : Exit → Act → World → Prop} (s x : Operand) (t : TypeId)
    (ho : o.op = .call { callee := .builtin .append, args := #[s, x], argTypes := #[t, t] })
    (base : Nat) (e : TypeId) (i : TypeInfo) (ht : P.underlying t = some (.slice e)) (hi : P.info? e = some i) (hz : i.zero = some (.agg #[.int .i64 0, .int .i64 0])) (hsize : i.size = 2) (hby : i.bytes = 16)
    (v : Value) (O : List (Int × Int)) (hs : a.eval s = v) (hown : W.ownsRow base e 2 v O.length (flat2 O)) (x0 x1 : Int) (g : Nat) (hx : a.eval x = .slice (some ⟨g, 0, none⟩) 1 1) (hg : W.heap.size = g) (O' : List (Int × Int)) (hO' : Hid (O ++ [(x0, x1)] = O'))
    (hO : O.length ≤ 1099511627776) (hbase : base ≤ W.heap.size)
    (h : ∀ v' w', w'.ownsRow base e 2 v' O'.length (flat2 O') → Below base W w' → Keeps W w' v v' → K (a.put o.dst v') w') : o.wp P a (W.alloc (.cells #[.int .i64 x0, .int .i64 x1] e)) K Q := by
  subst hg
  refine wp_append_own _ s x t ho base e i (.agg #[.int .i64 0, .int .i64 0]) 2 16 ht hi hz hsize hby rfl (by decide) v O.length (flat2 O) hs (hown.alloc _) ⟨W.heap.size, 0, none⟩ 1 1 [.int .i64 x0, .int .i64 x1] hx rfl ?_ ?_ ?_ ?_ ?_ ?_
  · intro j u hj
    match j, hj with
    | 0, hj => simp at hj; subst hj; simp [Addr.add]
    | 1, hj => simp at hj; subst hj; simp [Addr.add]
  · intro u hu; simp at hu; rcases hu with rfl | rfl <;> rfl
  · unfold maxLen; omega
  · omega
  · simp; omega
  · intro v' w1 hown' hgrow hnn
    rw [← hO'.out] at h
    have R := rel_row (x := (x0, x1)) hbase hown (Below.refl base W) hown' hgrow
    exact h v' w1 R.1 R.2 ⟨fun k hk hne => by rw [hgrow.block k (by simp; omega) hne]; exact Below.heap_alloc W _ k hk, fun e => by have := (hnn.1 e).2; omega⟩
theorem wp_push {P : Program} {W : World} {ops : Array Oper} {rest : List Oper} {o : Oper} {a : Act} {Q : Exit → Act → World → Prop} (hgd : o.guard = none) (s x : Operand) (t : TypeId)
    (ho : o.op = .call { callee := .builtin .append, args := #[s, x], argTypes := #[t, t] })
    (base : Nat) (e : TypeId) (i : TypeInfo) (ht : P.underlying t = some (.slice e)) (hi : P.info? e = some i) (hz : i.zero = some (.agg #[.int .i64 0, .int .i64 0])) (hsize : i.size = 2) (hby : i.bytes = 16)
    (v : Value) (O : List (Int × Int)) (hs : a.eval s = v) (hown : W.ownsRow base e 2 v O.length (flat2 O)) (x0 x1 : Int) (g : Nat) (hx : a.eval x = .slice (some ⟨g, 0, none⟩) 1 1) (hg : W.heap.size = g) (O' : List (Int × Int)) (hO' : Hid (O ++ [(x0, x1)] = O'))
    (hO : O.length ≤ 1099511627776) (hbase : base ≤ W.heap.size)
    (h : ∀ v' w', w'.ownsRow base e 2 v' O'.length (flat2 O') → Below base W w' → Keeps W w' v v' → wpList P ops Q rest (a.put o.dst v') w') : wpList P ops Q (o :: rest) a (W.alloc (.cells #[.int .i64 x0, .int .i64 x1] e)) :=
  wpList_plain hgd fun _ hK => op_push s x t ho base e i ht hi hz hsize hby v O hs hown x0 x1 g hx hg O' hO' hO hbase fun v' w' h2 h3 h4 => hK _ _ (h v' w' h2 h3 h4)
theorem own_kind {w : World} {B : Nat} {e : TypeId} {v : Value} {n : Nat} {xs : List Value} (h : w.ownsRow B e 2 v n xs) : (v = .slice none 0 0 ∧ n = 0) ∨ ∃ ad c, v = .slice (some ad) n c := by
  rcases h.2 with ⟨hv, h0⟩ | ⟨g, cap, cur, hv, -⟩
  · exact .inl ⟨hv, h0⟩
  · exact .inr ⟨_, _, hv⟩
/-- a slice of prefixes whose row is one of prefixes. -/
def Typed (w : World) (v : Value) : Prop := ∀ ad n c, v = .slice (some ad) n c → ∃ cur, w.heap[ad.block]? = some (.cells cur 36 (0, 0))
theorem own_typed {w : World} {B : Nat} {v : Value} {n : Nat} {xs : List Value} (h : w.ownsRow B 36 2 v n xs) : Typed w v := by
  intro ad m c hv
  rcases h.2 with ⟨h0, -⟩ | ⟨g, cap, cur, h0, -, hg, -⟩
  · rw [hv] at h0; cases h0
  · rw [hv] at h0
    simp only [Value.slice.injEq, Option.some.injEq] at h0
    rw [h0.1]
    exact ⟨cur, hg⟩
theorem Typed.below {w w' : World} {v : Value} (h : Typed w v) (hb : Below w.heap.size w w') : Typed w' v := by
  intro ad m c hv
  obtain ⟨cur, hc⟩ := h ad m c hv
  exact ⟨cur, by rw [hb.block _ (Array.getElem?_eq_some_iff.1 hc).1]; exact hc⟩
theorem own_mono {w : World} {base base' : Nat} {e : TypeId} {size : Nat} {v : Value} {n : Nat} {xs : List Value} (h : w.ownsRow base e size v n xs) (hb : base' ≤ base) : w.ownsRow base' e size v n xs :=
  ⟨h.1, h.2.imp id fun ⟨g, cap, cur, h1, h2, h3⟩ => ⟨g, cap, cur, h1, Nat.le_trans hb h2, h3⟩⟩
theorem own_below {w w' : World} {base : Nat} {e : TypeId} {size : Nat} {v : Value} {n : Nat} {xs : List Value} (h : w.ownsRow base e size v n xs) (hb : Below w.heap.size w w') : w'.ownsRow base e size v n xs :=
  h.kept (row := none) ⟨hb.os, hb.tape, hb.output, hb.size, fun k hk _ => hb.block k hk⟩ (by cases v.ownBlock <;> simp)
theorem own_store {w : World} {B g cap : Nat} {e : TypeId} {D : List (Int × Int)} {c : Int × Int} (h : w.ownsRow B e 2 (.slice (some ⟨g, 0, none⟩) (D.length + 1) cap) (D ++ [c]).length (flat2 (D ++ [c]))) (m : Int) :
    (w.setCell ⟨g, D.length * 2 + 1, none⟩ (.int .i64 m)).ownsRow B e 2 (.slice (some ⟨g, 0, none⟩) (D.length + 1) cap) (D ++ [(c.1, m)]).length (flat2 (D ++ [(c.1, m)])) := by
  have hh := h
  simp only [List.length_append, List.length_cons, List.length_nil, Nat.zero_add] at hh ⊢
  have := (hh.stored (D.length * 2 + 1) (.int .i64 m)).1
  rw [flat2_set] at this
  exact this
theorem pInfo_parts {P : Program} {e : TypeId} {z : Value} {s b : Nat} (h : (P.info? e).map (fun i => (i.zero, i.size, i.bytes)) = some (some z, s, b)) : ∃ i, P.info? e = some i ∧ i.zero = some z ∧ i.size = s ∧ i.bytes = b := by
  cases hi : P.info? e with
  | none => rw [hi] at h; cases h
  | some i =>
    rw [hi] at h
    simp only [Option.map_some, Option.some.injEq, Prod.mk.injEq] at h
    exact ⟨i, rfl, h.1, h.2.1, h.2.2⟩
theorem infoPre : (Tryd.prog.info? 36).map (fun i => (i.zero, i.size, i.bytes)) = some (some (.agg #[.int .i64 0, .int .i64 0]), 2, 16) := by kernel_rfl
end Go.Proofs.YthehpnhjfnenoaaDoor
