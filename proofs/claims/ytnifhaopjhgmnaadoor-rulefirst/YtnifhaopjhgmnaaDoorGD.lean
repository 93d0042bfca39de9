/-
  From a row's condition to what package attr's walks lean on; what is told of a route, among the arguments.
  Rules in memory (eleven cells each): what a slice holds; all of a list behind a row's end.
  A slice of rules among the arguments.
-/
import Derived.Test.YtnifhaopjhgmnaaDoorGA
import Derived.Test.YtnifhaopjhgmnaaDoorAttrEnv
import Derived.Test.YtnifhaopjhgmnaaDoorGC
import Derived.Deep.Slices
import Derived.Carry
import Derived.ChangeSlices
import Derived.Test.YtnifhaopjhgmnaaDoorGB
import Derived.OwnWalk
import Derived.Laws.AppendOwnNone
import Derived.Laws.OwnMore
namespace Go.Proofs.YtnifhaopjhgmnaaDoor
open Go.ChangeShapes Go.WideShapes Go.ChangeAt Go.RowKit Go.Joins Go.Deep

theorem laidOutF : laidOutB Tryd.prog = true := by kernel_rfl
theorem cellsI : Tryd.prog.cellsOf 3 = 1 := by kernel_rfl
theorem cellsSI : Tryd.prog.cellsOf 25 = 1 := by kernel_rfl
theorem cellsAt : Tryd.prog.cellsOf 27 = 5 := by kernel_rfl
theorem typesAt : Tryd.prog.cellTypes Tryd.prog.depth 27 = some [25, 3, 3, 3, 25] := by kernel_rfl
section
variable {H : Type} {enc : TypeId × Value → H}
set_option maxRecDepth 100000 in
theorem ints_of_trod {W : World} {fuel b0 : Nat} {v : Value} {x : DataW H × List MemPlace} (h : DataW.trod enc Tryd.prog W 0 (fun _ => true) true fuel 25 [v] = some x) (ho : Cell.okWide Tryd.prog W .any b0 25 v) :
    ∃ p L c, v = .slice p L.length c ∧ Ints W p L ∧ Kind1 p L.length c := by
  rcases open_ints Tryd.underlying25 Tryd.underlying3 cellsI h with ⟨hcs, -⟩ | ⟨a, len, cap, zs, hcs, -, h1, h2, h3, -, hall, -⟩
  · simp at hcs
    subst hcs
    exact ⟨none, [], 0, rfl, ints_nil _ _, .inl ⟨rfl, rfl, rfl⟩⟩
  · simp at hcs
    subst hcs
    simp only [if_true] at h3
    have hsp : a.spot = none := by
      simp only [Cell.okWide, Tryd.underlying25, Cell.ok, World.has] at ho
      exact ho.2.2.2.1
    obtain ⟨b, o, spot⟩ := a
    simp only at hsp
    subst hsp
    have hl : (zs.take len).length = len := by simp; omega
    refine ⟨some ⟨b, o, none⟩, zs.take len, cap, by rw [hl], fun i hi => ⟨b, o, rfl, ?_⟩, .inr ⟨⟨b, o, rfl⟩, by omega, h2⟩⟩
    have hi' : i < len := by rw [hl] at hi; exact hi
    have := hall i (by omega)
    rw [Addr.add_lit] at this
    rw [this]
    simp [List.getD, show i < zs.length by omega]
theorem trod_struct5 {P : Program} {w : World} {base : Nat} {spare : Nat → Bool} {held : Bool} {t : TypeId} {f0 f1 f2 f3 f4 : Field} {fuel : Nat} {cs : List Value} {x : DataW H × List MemPlace} (ht : P.underlying t = some (.struct #[f0, f1, f2, f3, f4])) (h : DataW.trod enc P w base spare held fuel t cs = some x) :
    ∃ y0 y1 y2 y3 y4 n, DataW.trod enc P w base spare held n f0.type ((cs.drop f0.offset).take (P.cellsOf f0.type)) = some y0 ∧ DataW.trod enc P w base spare held n f1.type ((cs.drop f1.offset).take (P.cellsOf f1.type)) = some y1 ∧
      DataW.trod enc P w base spare held n f2.type ((cs.drop f2.offset).take (P.cellsOf f2.type)) = some y2 ∧ DataW.trod enc P w base spare held n f3.type ((cs.drop f3.offset).take (P.cellsOf f3.type)) = some y3 ∧ DataW.trod enc P w base spare held n f4.type ((cs.drop f4.offset).take (P.cellsOf f4.type)) = some y4 := by
  obtain ⟨xs, n, _, _, _, hlen, hf⟩ := DataW.trod_struct ht h
  match xs, hlen with
  | [y0, y1, y2, y3, y4], _ => exact ⟨y0, y1, y2, y3, y4, n, by simpa using hf 0 f0 rfl, by simpa using hf 1 f1 rfl, by simpa using hf 2 f2 rfl, by simpa using hf 3 f3 rfl, by simpa using hf 4 f4 rfl⟩
set_option maxRecDepth 100000 in
/-- What is told of a route, that came in. -/
theorem open_attr {W : World} {b0 : Nat} {v : Value} {d : DataW H} {ps : List MemPlace} (hv : Value.okWide Tryd.prog W .any b0 27 v) (h : DataW.Trod enc Tryd.prog W 0 (fun _ => true) true 27 v d ps) :
    ∃ A, AttrK W v A := by
  have hv' : ∃ cs, v = .agg cs ∧ cs.size = Tryd.prog.cellsOf 27 ∧ Row.okWide Tryd.prog W .any b0 27 cs := by
    simpa only [Value.okWide, Tryd.underlying27] using hv
  obtain ⟨cs, rfl, hsz, ts, hts, -, hcell⟩ := hv'
  obtain rfl := Option.some.inj (typesAt.symm.trans hts)
  rw [cellsAt] at hsz
  obtain ⟨l⟩ := cs
  obtain ⟨fuel, hf⟩ := h
  obtain ⟨y0, y1, y2, y3, y4, n, g0, g1, g2, g3, g4⟩ := trod_struct5 Tryd.underlying27 hf
  match l, hsz with
  | [c0, c1, c2, c3, c4], _ =>
    simp only [Value.cells, cellsI, cellsSI, List.drop_zero, List.take_succ_cons, List.take_zero, List.drop_succ_cons] at g0 g1 g2 g3 g4
    obtain ⟨p, P, cp, rfl, i1, k1⟩ := ints_of_trod g0 (by obtain ⟨u, hu, ho⟩ := hcell 0 c0 rfl; obtain rfl : 25 = u := (by simpa using hu); exact ho)
    obtain ⟨f, q1, -, -⟩ := DataW.trod_int Tryd.underlying3 g1
    obtain ⟨m, q2, -, -⟩ := DataW.trod_int Tryd.underlying3 g2
    obtain ⟨o, q3, -, -⟩ := DataW.trod_int Tryd.underlying3 g3
    obtain ⟨q, T, cq, rfl, i2, k2⟩ := ints_of_trod g4 (by obtain ⟨u, hu, ho⟩ := hcell 4 c4 rfl; obtain rfl : 25 = u := (by simpa using hu); exact ho)
    simp only [List.cons.injEq, and_true] at q1 q2 q3
    subst q1 q2 q3
    exact ⟨⟨P, f, m, o, T⟩, p, cp, q, cq, rfl, i1, i2, k1, k2⟩
end
end Go.Proofs.YtnifhaopjhgmnaaDoor

namespace Go.Proofs.YtnifhaopjhgmnaaDoor
open Go.RowKit

/-- a rule. -/
structure Rl where
  wa : Int
  wn : Int
  lo : Int
  hi : Int
  tag : Int
  sys : Int
  deny : Bool
  pref : Int
  med : Int
  add : Int
  lead : Int
def rl0 : Rl := ⟨0, 0, 0, 0, 0, 0, false, 0, 0, 0, 0⟩
def encR (r : Rl) : List Value := [.int .i64 r.wa, .int .i64 r.wn, .int .i64 r.lo, .int .i64 r.hi, .int .i64 r.tag, .int .i64 r.sys, .bool r.deny, .int .i64 r.pref, .int .i64 r.med, .int .i64 r.add, .int .i64 r.lead]
def flatR (L : List Rl) : List Value := L.flatMap encR
theorem flatR_cons (x : Rl) (L : List Rl) : flatR (x :: L) = encR x ++ flatR L := rfl
theorem flatR_append (L M : List Rl) : flatR (L ++ M) = flatR L ++ flatR M := by simp [flatR]
theorem flatR_length (L : List Rl) : (flatR L).length = L.length * 11 := by
  induction L with
  | nil => rfl
  | cons x L ih => rw [flatR_cons, List.length_append, ih]; simp [encR]; omega
theorem flatR_get (L : List Rl) (i k : Nat) (h : i < L.length) (hk : k < 11) : (flatR L)[i * 11 + k]? = (encR L[i])[k]? := by
  induction L generalizing i with
  | nil => simp at h
  | cons x L ih =>
    have hx : (encR x).length = 11 := rfl
    rw [flatR_cons]
    cases i with
    | zero => rw [List.getElem?_append_left (by omega)]; simp
    | succ i =>
      rw [List.getElem?_append_right (by omega), hx, show (i + 1) * 11 + k - 11 = i * 11 + k by omega]
      simpa using ih i (by simpa using h)
/-- a rule's eleven cells, at an address. -/
def RuleAt (w : World) (b o : Nat) (r : Rl) : Prop := ∀ k v, (encR r)[k]? = some v → w.cell? ⟨b, o + k, none⟩ = some v
theorem RuleAt.below {w w' : World} {b o : Nat} {r : Rl} (h : RuleAt w b o r) (hb : Below w.heap.size w w') : RuleAt w' b o r := fun k v hk => cell_kept hb (h k v hk)
theorem RuleAt.cells {w : World} {b o : Nat} {r : Rl} (h : RuleAt w b o r) : w.cell? ⟨b, o, none⟩ = some (.int .i64 r.wa) ∧ w.cell? ⟨b, o + 1, none⟩ = some (.int .i64 r.wn) ∧ w.cell? ⟨b, o + 2, none⟩ = some (.int .i64 r.lo) ∧ w.cell? ⟨b, o + 3, none⟩ = some (.int .i64 r.hi) ∧ w.cell? ⟨b, o + 4, none⟩ = some (.int .i64 r.tag) ∧ w.cell? ⟨b, o + 5, none⟩ = some (.int .i64 r.sys)
    ∧ w.cell? ⟨b, o + 6, none⟩ = some (.bool r.deny) ∧ w.cell? ⟨b, o + 7, none⟩ = some (.int .i64 r.pref) ∧ w.cell? ⟨b, o + 8, none⟩ = some (.int .i64 r.med) ∧ w.cell? ⟨b, o + 9, none⟩ = some (.int .i64 r.add) ∧ w.cell? ⟨b, o + 10, none⟩ = some (.int .i64 r.lead) :=
  ⟨h 0 _ rfl, h 1 _ rfl, h 2 _ rfl, h 3 _ rfl, h 4 _ rfl, h 5 _ rfl, h 6 _ rfl, h 7 _ rfl, h 8 _ rfl, h 9 _ rfl, h 10 _ rfl⟩
/-- what a slice at p holds: rules. -/
def Rules (w : World) (p : Option Addr) (L : List Rl) : Prop :=
  ∀ i (h : i < L.length), ∃ b o, p = some ⟨b, o, none⟩ ∧ RuleAt w b (o + i * 11) L[i]
theorem Rules.below {w w' : World} {p : Option Addr} {L : List Rl} (h : Rules w p L) (hb : Below w.heap.size w w') : Rules w' p L := fun i hi => by
  obtain ⟨b, o, e, c⟩ := h i hi
  exact ⟨b, o, e, c.below hb⟩
theorem rules_nil (w : World) (p : Option Addr) : Rules w p [] := fun i hi => by simp at hi
theorem Rules.take {w : World} {p : Option Addr} {L : List Rl} (h : Rules w p L) (k : Nat) : Rules w p (L.take k) := fun i hi => by
  have hk : i < L.length := by simp at hi; omega
  obtain ⟨b, o, e, c⟩ := h i hk
  exact ⟨b, o, e, by simpa using c⟩
theorem Rules.drop {w : World} {b o : Nat} {L : List Rl} (h : Rules w (some ⟨b, o, none⟩) L) (k : Nat) : Rules w (some ⟨b, o + k * 11, none⟩) (L.drop k) := fun i hi => by
  have hk : k + i < L.length := by simp at hi; omega
  obtain ⟨b', o', e, c⟩ := h (k + i) hk
  simp only [Option.some.injEq, Addr.mk.injEq, and_true] at e
  obtain ⟨rfl, rfl⟩ := e
  refine ⟨b, o + k * 11, rfl, ?_⟩
  rw [show o + k * 11 + i * 11 = o + (k + i) * 11 by omega]
  simpa using c
theorem own_rules {w : World} {B : Nat} {e : TypeId} {v : Value} {L : List Rl} (h : w.ownsRow B e 11 v L.length (flatR L)) : ∃ p cap, v = .slice p L.length cap ∧ L.length ≤ cap ∧ cap ≤ maxLen ∧ Rules w p L ∧ (p = none → L = [] ∧ cap = 0) := by
  rcases h.2 with ⟨hv, h0⟩ | ⟨g, cap, cur, hv, hb, hg, h1, h2, h3, h4⟩
  · have : L = [] := List.eq_nil_of_length_eq_zero h0
    subst this
    exact ⟨none, 0, hv, by simp, by simp, rules_nil _ _, fun _ => ⟨rfl, rfl⟩⟩
  · refine ⟨some ⟨g, 0, none⟩, cap, hv, h1, h2, fun i hi => ⟨g, 0, rfl, fun k v hk => ?_⟩, fun e => by cases e⟩
    subst hv
    have hk11 : k < 11 := by have := (List.getElem?_eq_some_iff.1 hk).1; simpa [encR] using this
    rw [Nat.zero_add, h.cellAt _ (by omega), flatR_get L i k hi hk11, hk]
theorem flatR_one (L : List Rl) : ∀ u ∈ flatR L, u.oneCell' = true := by
  intro u hu
  simp only [flatR, List.mem_flatMap] at hu
  obtain ⟨x, -, hu⟩ := hu
  simp only [encR, List.mem_cons, List.not_mem_nil, or_false] at hu
  rcases hu with rfl | rfl | rfl | rfl | rfl | rfl | rfl | rfl | rfl | rfl | rfl <;> rfl
def rule0V : Value := .agg #[.int .i64 0, .int .i64 0, .int .i64 0, .int .i64 0, .int .i64 0, .int .i64 0, .bool false, .int .i64 0, .int .i64 0, .int .i64 0, .int .i64 0]
theorem infoRule0 : (Tryd.prog.info? 37).map (fun i => (i.zero, i.size, i.bytes)) = some (some rule0V, 11, 88) := by kernel_rfl
theorem infoRule : ∃ i, Tryd.prog.info? 37 = some i ∧ i.zero = some rule0V ∧ i.size = 11 ∧ i.bytes = 88 := by
  have h := infoRule0
  cases hi : Tryd.prog.info? 37 with
  | none => rw [hi] at h; cases h
  | some i =>
    rw [hi] at h
    simp only [Option.map_some, Option.some.injEq, Prod.mk.injEq] at h
    exact ⟨i, rfl, h.1, h.2.1, h.2.2⟩
/-- a slice: nothing, or one that lies somewhere. -/
def KindR (p : Option Addr) (n c : Nat) : Prop := (p = none ∧ n = 0 ∧ c = 0) ∨ ∃ ad, p = some ad
/-- all of a list behind a row's end. -/
theorem op_addAllR {P : Program} {W : World} {o : Oper} {a : Act} {K : Act → World → Prop} {Q : Exit → Act → World → Prop} (s x : Operand) (t : TypeId)
    (ho : o.op = .call { callee := .builtin .append, args := #[s, x], argTypes := #[t, t] })
    (base : Nat) (e : TypeId) (i : TypeInfo) (ht : P.underlying t = some (.slice e)) (hi : P.info? e = some i) (hz : i.zero = some rule0V) (hsize : i.size = 11) (hby : i.bytes = 88)
    (v : Value) (O : List Rl) (hs : a.eval s = v) (hown : W.ownsRow base e 11 v O.length (flatR O)) (p : Option Addr) (M : List Rl) (n c : Nat) (hx : a.eval x = .slice p n c) (hn : M.length = n) (hk : KindR p n c) (hM : Rules W p M) (O' : List Rl) (hO' : Hid (O ++ M = O'))
    (hO : O.length + M.length ≤ 1099511627776) (hbase : base ≤ W.heap.size)
    (h : ∀ v' w', w'.ownsRow base e 11 v' O'.length (flatR O') → Below base W w' → K (a.put o.dst v') w') : o.wp P a W K Q := by
  subst hn
  rcases hk with ⟨rfl, h0, rfl⟩ | ⟨ad, rfl⟩
  · have hM0 : M = [] := List.eq_nil_of_length_eq_zero h0
    subst hM0
    rw [List.append_nil] at hO'
    have := hO'.out
    subst this
    have hrun := run_append_owned_none (P := P) (w := W) base t o.type e i 11 ht hi v O.length (flatR O) hown
    have hx' : a.eval x = .slice none 0 0 := hx
    unfold Oper.wp
    simp [execOp, ho, resolve, invoke, builtin, hs, hx', hrun, Result.andThen]
    exact h _ _ hown (Below.refl _ _)
  · refine wp_append_own _ s x t ho base e i rule0V 11 88 ht hi hz hsize hby rfl (by decide) v O.length (flatR O) hs hown ad M.length c (flatR M) hx (flatR_length M) ?_ (flatR_one M) (by unfold maxLen; omega) (by omega) hbase ?_
    · intro j u hj
      have hjl : j < M.length * 11 := by
        have := (List.getElem?_eq_some_iff.1 hj).1
        rwa [flatR_length] at this
      obtain ⟨b, o', e', c0⟩ := hM (j / 11) (by omega)
      simp only [Option.some.injEq] at e'
      subst e'
      have hm : j % 11 < 11 := Nat.mod_lt _ (by decide)
      have hj' := flatR_get M (j / 11) (j % 11) (by omega) hm
      rw [show j / 11 * 11 + j % 11 = j by omega, hj] at hj'
      have := c0 (j % 11) u hj'.symm
      rw [Addr.add_lit, show o' + j = o' + j / 11 * 11 + j % 11 by omega]
      exact this
    · intro v' w1 hown' hgrow _
      rw [← hO'.out] at h
      refine h v' w1 ?_ ((Below.refl base W).grown hgrow hbase (fun j hj => (hown.lt j hj).1))
      rw [flatR_append, List.length_append]
      exact hown'
theorem wp_addAllR {P : Program} {W : World} {ops : Array Oper} {rest : List Oper} {o : Oper} {a : Act} {Q : Exit → Act → World → Prop} (hgd : o.guard = none) (s x : Operand) (t : TypeId)
    (ho : o.op = .call { callee := .builtin .append, args := #[s, x], argTypes := #[t, t] })
    (base : Nat) (e : TypeId) (i : TypeInfo) (ht : P.underlying t = some (.slice e)) (hi : P.info? e = some i) (hz : i.zero = some rule0V) (hsize : i.size = 11) (hby : i.bytes = 88)
    (v : Value) (O : List Rl) (hs : a.eval s = v) (hown : W.ownsRow base e 11 v O.length (flatR O)) (p : Option Addr) (M : List Rl) (n c : Nat) (hx : a.eval x = .slice p n c) (hn : M.length = n) (hk : KindR p n c) (hM : Rules W p M) (O' : List Rl) (hO' : Hid (O ++ M = O'))
    (hO : O.length + M.length ≤ 1099511627776) (hbase : base ≤ W.heap.size)
    (h : ∀ v' w', w'.ownsRow base e 11 v' O'.length (flatR O') → Below base W w' → wpList P ops Q rest (a.put o.dst v') w') : wpList P ops Q (o :: rest) a W :=
  wpList_plain hgd fun _ hK => op_addAllR s x t ho base e i ht hi hz hsize hby v O hs hown p M n c hx hn hk hM O' hO' hO hbase fun v' w' h2 h3 => hK _ _ (h v' w' h2 h3)
end Go.Proofs.YtnifhaopjhgmnaaDoor

namespace Go.Proofs.YtnifhaopjhgmnaaDoor
open Go.ChangeShapes Go.WideShapes Go.ChangeAt Go.RowKit Go.Joins Go.Deep

theorem cellsB9 : Tryd.prog.cellsOf 4 = 1 := by kernel_rfl
theorem cellsRl : Tryd.prog.cellsOf 37 = 11 := by kernel_rfl
theorem rAdd_add (a : Addr) (i j : Nat) : (a.add i).add j = a.add (i + j) := by
  unfold Addr.add
  split <;> split <;> simp_all [Nat.add_assoc]
theorem rRow_plain {a : Addr} (i : Nat) (h : a.spot = none) : a.add i = ⟨a.block, a.off + i, none⟩ := by
  obtain ⟨b, o, s⟩ := a
  simp only at h
  subst h
  exact Addr.add_lit b o i
section
variable {H : Type} {enc : TypeId × Value → H}
theorem trod_struct10 {P : Program} {w : World} {base : Nat} {spare : Nat → Bool} {held : Bool} {t : TypeId} {f0 f1 f2 f3 f4 f5 f6 f7 f8 f9 : Field} {fuel : Nat} {cs : List Value} {x : DataW H × List MemPlace} (ht : P.underlying t = some (.struct #[f0, f1, f2, f3, f4, f5, f6, f7, f8, f9])) (h : DataW.trod enc P w base spare held fuel t cs = some x) :
    ∃ y0 y1 y2 y3 y4 y5 y6 y7 y8 y9 n, DataW.trod enc P w base spare held n f0.type ((cs.drop f0.offset).take (P.cellsOf f0.type)) = some y0 ∧ DataW.trod enc P w base spare held n f1.type ((cs.drop f1.offset).take (P.cellsOf f1.type)) = some y1 ∧ DataW.trod enc P w base spare held n f2.type ((cs.drop f2.offset).take (P.cellsOf f2.type)) = some y2 ∧ DataW.trod enc P w base spare held n f3.type ((cs.drop f3.offset).take (P.cellsOf f3.type)) = some y3 ∧ DataW.trod enc P w base spare held n f4.type ((cs.drop f4.offset).take (P.cellsOf f4.type)) = some y4 ∧ DataW.trod enc P w base spare held n f5.type ((cs.drop f5.offset).take (P.cellsOf f5.type)) = some y5 ∧ DataW.trod enc P w base spare held n f6.type ((cs.drop f6.offset).take (P.cellsOf f6.type)) = some y6 ∧ DataW.trod enc P w base spare held n f7.type ((cs.drop f7.offset).take (P.cellsOf f7.type)) = some y7 ∧ DataW.trod enc P w base spare held n f8.type ((cs.drop f8.offset).take (P.cellsOf f8.type)) = some y8 ∧ DataW.trod enc P w base spare held n f9.type ((cs.drop f9.offset).take (P.cellsOf f9.type)) = some y9 := by
  obtain ⟨xs, n, _, _, _, hlen, hf⟩ := DataW.trod_struct ht h
  match xs, hlen with
  | [y0, y1, y2, y3, y4, y5, y6, y7, y8, y9], _ => exact ⟨y0, y1, y2, y3, y4, y5, y6, y7, y8, y9, n, by simpa using hf 0 f0 rfl, by simpa using hf 1 f1 rfl, by simpa using hf 2 f2 rfl, by simpa using hf 3 f3 rfl, by simpa using hf 4 f4 rfl, by simpa using hf 5 f5 rfl, by simpa using hf 6 f6 rfl, by simpa using hf 7 f7 rfl, by simpa using hf 8 f8 rfl, by simpa using hf 9 f9 rfl⟩
set_option maxRecDepth 100000 in
set_option maxHeartbeats 2000000 in
/-- A slice of rules that came in, by its cells. -/
theorem rules_of_trod {W : World} {fuel : Nat} {a0 : Option Addr} {len cap : Nat} {x : DataW H × List MemPlace} (h : DataW.trod enc Tryd.prog W 0 (fun _ => true) true fuel 22 [.slice a0 len cap] = some x) :
    ∃ L : List Rl, L.length = len ∧ Rules W a0 L ∧ KindR a0 len cap ∧ len ≤ cap ∧ cap ≤ maxLen := by
  rcases open_slice Tryd.underlying22 h with ⟨hcs, -⟩ | ⟨a, len', cap', m, n, D, Pl, hcs, -, hl, hm, hmeq, -, hall⟩
  · simp at hcs
    obtain ⟨rfl, rfl, rfl⟩ := hcs
    exact ⟨[], rfl, rules_nil _ _, .inl ⟨rfl, rfl, rfl⟩, Nat.le_refl _, Nat.zero_le _⟩
  · simp at hcs
    obtain ⟨rfl, rfl, rfl⟩ := hcs
    simp only [if_true] at hmeq
    subst hmeq
    have each : ∀ i, i < len → ∃ r : Rl, W.cell? (a.add (i * 11 + 0)) = some (.int .i64 r.wa) ∧ W.cell? (a.add (i * 11 + 1)) = some (.int .i64 r.wn) ∧ W.cell? (a.add (i * 11 + 2)) = some (.int .i64 r.lo) ∧ W.cell? (a.add (i * 11 + 3)) = some (.int .i64 r.hi) ∧ W.cell? (a.add (i * 11 + 4)) = some (.int .i64 r.tag) ∧ W.cell? (a.add (i * 11 + 5)) = some (.int .i64 r.sys) ∧ W.cell? (a.add (i * 11 + 6)) = some (.bool r.deny) ∧ W.cell? (a.add (i * 11 + 7)) = some (.int .i64 r.pref) ∧ W.cell? (a.add (i * 11 + 8)) = some (.int .i64 r.med) ∧ W.cell? (a.add (i * 11 + 9)) = some (.int .i64 r.add) ∧ W.cell? (a.add (i * 11 + 10)) = some (.int .i64 r.lead) := by
      intro i hi
      obtain ⟨cs', h1, h2⟩ := hall i (by omega)
      rw [cellsRl] at h1
      obtain ⟨-, hlen, hcell⟩ := World.cells?_some h1
      obtain ⟨y0, y1, y2, y3, y4, y5, y6, y7, y8, y9, k, g0, g1, g2, g3, g4, g5, g6, g7, g8, g9⟩ := trod_struct10 Tryd.underlying37 h2
      match cs', hlen with
      | [v0, v1, v2, v3, v4, v5, v6, v7, v8, v9, v10], _ =>
        have e0 := hcell 0 (by omega)
        have e1 := hcell 1 (by omega)
        have e2 := hcell 2 (by omega)
        have e3 := hcell 3 (by omega)
        have e4 := hcell 4 (by omega)
        have e5 := hcell 5 (by omega)
        have e6 := hcell 6 (by omega)
        have e7 := hcell 7 (by omega)
        have e8 := hcell 8 (by omega)
        have e9 := hcell 9 (by omega)
        have e10 := hcell 10 (by omega)
        rw [rAdd_add] at e0 e1 e2 e3 e4 e5 e6 e7 e8 e9 e10
        simp only [cellsP, cellsI, cellsB9, List.drop_zero, List.take_succ_cons, List.take_zero, List.drop_succ_cons, Nat.add_zero] at g0 g1 g2 g3 g4 g5 g6 g7 g8 g9 e0
        obtain ⟨z0, z1, k2, -, -, j0, j1⟩ := trod_struct2 Tryd.underlying24 g0
        simp only [cellsI, List.drop_zero, List.take_succ_cons, List.take_zero, List.drop_succ_cons] at j0 j1
        obtain ⟨x0, q0, -, -⟩ := DataW.trod_int Tryd.underlying3 j0
        obtain ⟨x1, q1, -, -⟩ := DataW.trod_int Tryd.underlying3 j1
        obtain ⟨x2, q2, -, -⟩ := DataW.trod_int Tryd.underlying3 g1
        obtain ⟨x3, q3, -, -⟩ := DataW.trod_int Tryd.underlying3 g2
        obtain ⟨x4, q4, -, -⟩ := DataW.trod_int Tryd.underlying3 g3
        obtain ⟨x5, q5, -, -⟩ := DataW.trod_int Tryd.underlying3 g4
        obtain ⟨x6, q6, -⟩ := DataW.trod_bool Tryd.underlying4 g5
        obtain ⟨x7, q7, -, -⟩ := DataW.trod_int Tryd.underlying3 g6
        obtain ⟨x8, q8, -, -⟩ := DataW.trod_int Tryd.underlying3 g7
        obtain ⟨x9, q9, -, -⟩ := DataW.trod_int Tryd.underlying3 g8
        obtain ⟨x10, q10, -, -⟩ := DataW.trod_int Tryd.underlying3 g9
        simp only [List.cons.injEq, and_true] at q0 q1 q2 q3 q4 q5 q6 q7 q8 q9 q10
        subst q0 q1 q2 q3 q4 q5 q6 q7 q8 q9 q10
        exact ⟨⟨x0, x1, x2, x3, x4, x5, x6, x7, x8, x9, x10⟩, by simpa using e0, by simpa using e1, by simpa using e2, by simpa using e3, by simpa using e4, by simpa using e5, by simpa using e6, by simpa using e7, by simpa using e8, by simpa using e9, by simpa using e10⟩
    have hspot : 0 < len → a.spot = none := fun h0 => by
      obtain ⟨r, c0, -⟩ := each 0 h0
      have := World.cell?_spot c0
      simpa [Addr.add] using this
    obtain ⟨f, hf⟩ : ∃ f : Nat → Rl, ∀ i, i < len → W.cell? (a.add (i * 11 + 0)) = some (.int .i64 (f i).wa) ∧ W.cell? (a.add (i * 11 + 1)) = some (.int .i64 (f i).wn) ∧ W.cell? (a.add (i * 11 + 2)) = some (.int .i64 (f i).lo) ∧ W.cell? (a.add (i * 11 + 3)) = some (.int .i64 (f i).hi) ∧ W.cell? (a.add (i * 11 + 4)) = some (.int .i64 (f i).tag) ∧ W.cell? (a.add (i * 11 + 5)) = some (.int .i64 (f i).sys) ∧ W.cell? (a.add (i * 11 + 6)) = some (.bool (f i).deny) ∧ W.cell? (a.add (i * 11 + 7)) = some (.int .i64 (f i).pref) ∧ W.cell? (a.add (i * 11 + 8)) = some (.int .i64 (f i).med) ∧ W.cell? (a.add (i * 11 + 9)) = some (.int .i64 (f i).add) ∧ W.cell? (a.add (i * 11 + 10)) = some (.int .i64 (f i).lead) := by
      refine ⟨fun i => if h : i < len then Classical.choose (each i h) else rl0, fun i hi => ?_⟩
      simp only [dif_pos hi]
      exact Classical.choose_spec (each i hi)
    refine ⟨(List.range len).map f, by simp, fun i hi => ?_, .inr ⟨a, rfl⟩, hl, hm⟩
    have hi' : i < len := by simpa using hi
    have hc := hf i hi'
    have hs := hspot (by omega)
    obtain ⟨b, o, spot⟩ := a
    simp only at hs
    subst hs
    refine ⟨b, o, rfl, ?_⟩
    simp only [List.getElem_map, List.getElem_range]
    obtain ⟨c0, c1, c2, c3, c4, c5, c6, c7, c8, c9, c10⟩ := hc
    simp only [Addr.add_lit] at c0 c1 c2 c3 c4 c5 c6 c7 c8 c9 c10
    intro k v hk
    have hk11 : k < 11 := by have := (List.getElem?_eq_some_iff.1 hk).1; simpa [encR] using this
    rw [show o + i * 11 + k = o + (i * 11 + k) by omega]
    match k, hk11, hk with
    | 0, _, hk => cases hk; exact c0
    | 1, _, hk => cases hk; exact c1
    | 2, _, hk => cases hk; exact c2
    | 3, _, hk => cases hk; exact c3
    | 4, _, hk => cases hk; exact c4
    | 5, _, hk => cases hk; exact c5
    | 6, _, hk => cases hk; exact c6
    | 7, _, hk => cases hk; exact c7
    | 8, _, hk => cases hk; exact c8
    | 9, _, hk => cases hk; exact c9
    | 10, _, hk => cases hk; exact c10
set_option maxRecDepth 100000 in
theorem open_rules {W : World} {b0 : Nat} {v : Value} {d : DataW H} {ps : List MemPlace} (hv : Value.okWide Tryd.prog W .any b0 22 v) (h : DataW.Trod enc Tryd.prog W 0 (fun _ => true) true 22 v d ps) :
    ∃ (q : Option Addr) (L : List Rl) (cap : Nat), v = .slice q L.length cap ∧ Rules W q L ∧ KindR q L.length cap := by
  obtain ⟨a0, len, cap, rfl⟩ := okWide_slice Tryd.underlying22 hv
  obtain ⟨fuel, hf⟩ := h
  simp only [Value.cells] at hf
  obtain ⟨L, rfl, hL, hK, -, -⟩ := rules_of_trod hf
  exact ⟨a0, L, cap, rfl, hL, hK⟩
set_option maxRecDepth 100000 in
theorem open_rules2 {W : World} {b0 : Nat} {v : Value} {d : DataW H} {ps : List MemPlace} (hv : Value.okWide Tryd.prog W .any b0 22 v) (h : DataW.Trod enc Tryd.prog W 0 (fun _ => true) true 22 v d ps) :
    ∃ (q : Option Addr) (L : List Rl) (cap : Nat), v = .slice q L.length cap ∧ Rules W q L ∧ KindR q L.length cap ∧ L.length ≤ cap ∧ cap ≤ maxLen := by
  obtain ⟨a0, len, cap, rfl⟩ := okWide_slice Tryd.underlying22 hv
  obtain ⟨fuel, hf⟩ := h
  simp only [Value.cells] at hf
  obtain ⟨L, rfl, hL, hK, h1, h2⟩ := rules_of_trod hf
  exact ⟨a0, L, cap, rfl, hL, hK, h1, h2⟩
end
end Go.Proofs.YtnifhaopjhgmnaaDoor
