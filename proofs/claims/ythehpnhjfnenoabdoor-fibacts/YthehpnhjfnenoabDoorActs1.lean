/-
  FibActs: the two tables side by side.
-/
import Derived.Test.YthehpnhjfnenoabDoorActsBase
import Derived.Test.YthehpnhjfnenoabDoorFibLong0
namespace Go.Proofs.YthehpnhjfnenoabDoor
open Go.RowKit

theorem errs_fib {w : World} {E : Nat → Addr} (h : ErrsLaid w E) : FibErrs w E := ⟨h.c1, h.c2, h.c4, h.c6⟩
theorem errs_ex {w : World} {E : Nat → Addr} (h : ErrsLaid w E) : ExLaid w E := h.c5
/-- the two tables, and a box beside them. -/
structure St (B : Nat) (E : Nat → Addr) (w wr : World) (tt rm : Nat) (Lt Lm : List Ent) (mo : Int) (F G : List Nat) (bx : Nat) (box : Obj) : Prop where
  ins : In0 B E w wr
  t : Own B wr tt Lt mo F
  m : RTab wr rm Lm mo G
  mg : ∀ b ∈ G, B ≤ b
  fg : ∀ b ∈ F, b ∉ G
  bo : wr.heap[bx]? = some box
  bf : bx ∉ F
  bg : bx ∉ G
theorem St.all {B : Nat} {E : Nat → Addr} {w wr w' : World} {tt rm : Nat} {Lt Lm : List Ent} {mo : Int} {F G : List Nat} {bx : Nat} {box : Obj} (h : St B E w wr tt rm Lt Lm mo F G bx box) (hb : Below wr.heap.size wr w') : St B E w w' tt rm Lt Lm mo F G bx box :=
  ⟨h.ins.all hb, h.t.all hb, h.m.below hb, h.mg, h.fg, by rw [hb.block bx (Array.getElem?_eq_some_iff.1 h.bo).1]; exact h.bo, h.bf, h.bg⟩
theorem St.put_t {B : Nat} {E : Nat → Addr} {w wr w' : World} {tt rm : Nat} {Lt Lm Lt' : List Ent} {mo : Int} {F G : List Nat} {bx : Nat} {box : Obj} {v : Value} {r : Ending} (h : St B E w wr tt rm Lt Lm mo F G bx box) (hp : PutPost mo F tt v Lt' wr r w') : r = .returned v ∧ ∃ F', St B E w w' tt rm Lt' Lm mo F' G bx box := by
  obtain ⟨e, F', ho, hi, hb, hk, hsub⟩ := hp.law h.ins h.t
  refine ⟨e, F', hi, ho, h.m.kept hk (fun b hb hm => h.fg b hm hb), h.mg, fun b hb hm => ?_, hk.heap h.bo h.bf, fun hm => ?_, h.bg⟩
  · rcases hsub b hb with h' | h'
    · exact h.fg b h' hm
    · have := h.m.lt b hm; omega
  · rcases hsub bx hm with h' | h'
    · exact h.bf h'
    · have := (Array.getElem?_eq_some_iff.1 h.bo).1; omega
theorem St.put_m {B : Nat} {E : Nat → Addr} {w wr w' : World} {tt rm : Nat} {Lt Lm Lm' : List Ent} {mo : Int} {F G G' : List Nat} {bx : Nat} {box : Obj} (h : St B E w wr tt rm Lt Lm mo F G bx box) (h1 : RTab w' rm Lm' mo G') (hsub : ∀ b ∈ G', b ∈ G ∨ wr.heap.size ≤ b) (hk : Kept G wr w') : St B E w w' tt rm Lt Lm' mo F G' bx box := by
  have hz := h.ins.size
  refine ⟨h.ins.next (hk.below hz h.mg), h.t.beside hk h.fg, h1, fun b hb => ?_, fun b hb hm => ?_, hk.heap h.bo h.bg, h.bf, fun hm => ?_⟩
  · rcases hsub b hb with h' | h'
    · exact h.mg b h'
    · omega
  · rcases hsub b hm with h' | h'
    · exact h.fg b hb h'
    · have := h.t.1.lt b hb; omega
  · rcases hsub bx hm with h' | h'
    · exact h.bg h'
    · have := (Array.getElem?_eq_some_iff.1 h.bo).1; omega
theorem St.rput {B : Nat} {E : Nat → Addr} {w wr w' : World} {tt rm : Nat} {Lt Lm Lm' : List Ent} {mo c : Int} {F G : List Nat} {bx : Nat} {box : Obj} {r : Ending} (h : St B E w wr tt rm Lt Lm mo F G bx box) (hp : RPost mo G rm c Lm' wr r w') : r = .returned (.int .i64 c) ∧ ∃ G', St B E w w' tt rm Lt Lm' mo F G' bx box := by
  obtain ⟨e, G', h1, h2, h3⟩ := hp
  exact ⟨e, G', h.put_m h1 h2 h3⟩
/-- the two tables alone. -/
structure St0 (B : Nat) (E : Nat → Addr) (w wr : World) (tt rm : Nat) (L : List Ent) (mo : Int) (F G : List Nat) : Prop where
  ins : In0 B E w wr
  t : Own B wr tt L mo F
  m : RTab wr rm L mo G
  mg : ∀ b ∈ G, B ≤ b
  fg : ∀ b ∈ F, b ∉ G
theorem St.none {B : Nat} {E : Nat → Addr} {w wr : World} {tt rm : Nat} {L : List Ent} {mo : Int} {F G : List Nat} {bx : Nat} {box : Obj} (h : St B E w wr tt rm L L mo F G bx box) : St0 B E w wr tt rm L mo F G := ⟨h.ins, h.t, h.m, h.mg, h.fg⟩
theorem St0.all {B : Nat} {E : Nat → Addr} {w wr w' : World} {tt rm : Nat} {L : List Ent} {mo : Int} {F G : List Nat} (h : St0 B E w wr tt rm L mo F G) (hb : Below wr.heap.size wr w') : St0 B E w w' tt rm L mo F G :=
  ⟨h.ins.all hb, h.t.all hb, h.m.below hb, h.mg, h.fg⟩
theorem St0.box {B : Nat} {E : Nat → Addr} {w wr : World} {tt rm : Nat} {L : List Ent} {mo : Int} {F G : List Nat} (h : St0 B E w wr tt rm L mo F G) (o : Obj) : St B E w (wr.alloc o) tt rm L L mo F G wr.heap.size o := by
  have h' := h.all (below_alloc wr o)
  exact ⟨h'.ins, h'.t, h'.m, h'.mg, h'.fg, Go.heap_alloc_new wr o, fun hm => by have := h.t.1.lt _ hm; omega, fun hm => by have := h.m.lt _ hm; omega⟩
/-- an act's copy. -/
def actObj (a : ActV) : Obj := .cells #[.string a.kind, .int .i64 a.a, .int .i64 a.n, .int .i64 a.hop, .slice a.q a.l.length a.cap] 56 (0, 0)
theorem act_cells {w : World} {b : Nat} {a : ActV} (h : w.heap[b]? = some (actObj a)) : w.cell? ⟨b, 0, none⟩ = some (.string a.kind) ∧ w.cell? ⟨b, 1, none⟩ = some (.int .i64 a.a) ∧ w.cell? ⟨b, 2, none⟩ = some (.int .i64 a.n) ∧ w.cell? ⟨b, 3, none⟩ = some (.int .i64 a.hop) ∧ w.cell? ⟨b, 4, none⟩ = some (.slice a.q a.l.length a.cap) := by
  simp only [World.cell?, h, actObj]
  exact ⟨rfl, rfl, rfl, rfl, rfl⟩
theorem codes_le {L : List Ent} {mo pa pn : Int} : putC L mo pa pn ≤ 9 ∧ dropC L pa pn ≤ 9 ∧ addC L mo pa pn ≤ 9 := by
  have h : chkC pa pn ≤ 9 := by unfold chkC; split <;> (try split) <;> omega
  refine ⟨?_, ?_, ?_⟩
  · unfold putC; split <;> (try split) <;> omega
  · unfold dropC; split <;> (try split) <;> omega
  · unfold addC; split <;> (try split) <;> (try split) <;> omega
theorem RTab.types {w : World} {rb : Nat} {L : List Ent} {mo : Int} {G : List Nat} (h : RTab w rb L mo G) : ∀ b ∈ G, ∃ c t, w.heap[b]? = some (.cells c t (0, 0)) ∧ t ≠ 88 := by
  obtain ⟨v, h1, h2, h3, rfl⟩ := h
  intro b hb
  rcases List.mem_cons.1 hb with rfl | hb
  · exact ⟨_, _, h1, by decide⟩
  · rcases h2.2 with ⟨rfl, -⟩ | ⟨g, cap, cur, rfl, -, hg, -⟩
    · simp [Value.ownBlock] at hb
    · simp only [Value.ownBlock, Option.toList_some, List.mem_singleton] at hb
      subst hb
      exact ⟨_, _, hg, by decide⟩
/-- what came of Set, on the one side and on the other. -/
def SetT (mo : Int) (l : List Ent) (E : Nat → Addr) (L L' : List Ent) (v : Value) (w : World) : Prop :=
  (okAt mo l l.length ∧ v = .nilIface ∧ L' = accL l l.length) ∨ ∃ (i : Nat) (hi : i < l.length) (k b : Nat), okAt mo l i ∧ addC (accL l i) mo l[i].1.1 l[i].1.2 = k + 1 ∧ v = .iface 86 (.pointer (some ⟨b, 0, none⟩)) ∧ w.heap[b]? = some (faultObj i (ev E (k + 1))) ∧ L' = L
def SetM (mo : Int) (l : List Ent) (L L' : List Ent) (c0 c1 : Int) : Prop :=
  (okAt mo l l.length ∧ c0 = 0 ∧ c1 = -1 ∧ L' = accL l l.length) ∨ ∃ (i : Nat) (hi : i < l.length) (k : Nat), okAt mo l i ∧ addC (accL l i) mo l[i].1.1 l[i].1.2 = k + 1 ∧ c0 = (k : Int) + 1 ∧ c1 = i ∧ L' = L
theorem St.set_t {B : Nat} {E : Nat → Addr} {w wr w' : World} {tt rm : Nat} {Lt Lm l : List Ent} {mo : Int} {F G : List Nat} {bx : Nat} {box : Obj} {r : Ending} (h : St B E w wr tt rm Lt Lm mo F G bx box) (hp : SetPost mo F tt E l wr r w') : ∃ v Lt' F', r = .returned v ∧ St B E w w' tt rm Lt' Lm mo F' G bx box ∧ SetT mo l E Lt Lt' v w' := by
  rcases hp with ⟨o, e, F', g⟩ | ⟨i, hi, k, b, o, c, e, q, hb⟩
  · obtain ⟨-, F2, hs⟩ := h.put_t (v := .nilIface) (r := .returned .nilIface) ⟨rfl, F', g⟩
    exact ⟨.nilIface, _, F2, e, hs, .inl ⟨o, rfl, rfl⟩⟩
  · exact ⟨_, Lt, F, e, h.all hb, .inr ⟨i, hi, k, b, o, c, rfl, q, rfl⟩⟩
theorem St.set_m {B : Nat} {E : Nat → Addr} {w wr w' : World} {tt rm : Nat} {Lt Lm l : List Ent} {mo : Int} {F G : List Nat} {bx : Nat} {box : Obj} {r : Ending} (h : St B E w wr tt rm Lt Lm mo F G bx box) (hp : RSetPost mo G rm l wr r w') : ∃ c0 c1 Lm' G', r = .returned (.agg #[.int .i64 c0, .int .i64 c1]) ∧ St B E w w' tt rm Lt Lm' mo F G' bx box ∧ SetM mo l Lm Lm' c0 c1 ∧ Kept G wr w' := by
  rcases hp with ⟨o, e, G', g1, g2, g3⟩ | ⟨i, hi, k, o, c, e, hb⟩
  · exact ⟨0, -1, _, G', e, h.put_m g1 g2 g3, .inl ⟨o, rfl, rfl, rfl⟩, g3⟩
  · exact ⟨_, _, Lm, G, e, h.all hb, .inr ⟨i, hi, k, o, c, rfl, rfl, rfl⟩, Kept.of_below hb⟩
/-- both Sets come to one. -/
theorem sets_one {mo c0 c1 : Int} {l L Lt Lm : List Ent} {G : List Nat} {rm : Nat} {E : Nat → Addr} {w2 w3 : World} {v : Value} (h1 : SetT mo l E L Lt v w2) (h2 : SetM mo l L Lm c0 c1) (hm : RTab w2 rm L mo G) (hk : Kept G w2 w3) (hE : ErrsLaid w3 E) :
    Lt = Lm ∧ Calls Tryd.prog 30 #[v, .agg #[.int .i64 c0, .int .i64 c1]] w3 fun e w' => e = .returned (.bool true) ∧ Below w3.heap.size w3 w' := by
  rcases h1 with ⟨o1, rfl, rfl⟩ | ⟨i, hi, k, b, o1, a1, rfl, q1, rfl⟩
  · rcases h2 with ⟨o2, rfl, rfl, rfl⟩ | ⟨j, hj, k', o2, a2, -⟩
    · exact ⟨rfl, faulted_nil w3⟩
    · have := o1 j hj hj; omega
  · rcases h2 with ⟨o2, -⟩ | ⟨j, hj, k', o2, a2, rfl, rfl, rfl⟩
    · have := o2 i hi hi; omega
    · have hij : i = j := by
        rcases Nat.lt_trichotomy i j with h | h | h
        · have := o2 i hi h; omega
        · exact h
        · have := o1 j hj h; omega
      subst hij
      obtain rfl : k = k' := by omega
      have hc := (codes_le (L := accL l i) (mo := mo) (pa := l[i].1.1) (pn := l[i].1.2)).2.2
      refine ⟨rfl, faulted_at b i k (by omega) E w3 hE (hk.heap q1 fun hb => ?_)⟩
      obtain ⟨c, t, hc1, hne⟩ := hm.types b hb
      rw [q1] at hc1
      simp only [faultObj, Option.some.injEq, Obj.cells.injEq] at hc1
      exact hne hc1.2.1.symm
theorem found_o {L : List Ent} {a k : Int} {o : Option Ent} (hs : Srt L) (hr : Rts L) (ho : Longest L a o) (hk : FoundK L a L.length k) : (o = none ∧ k = -1) ∨ ∃ (i : Nat) (h : i < L.length), k = i ∧ o = some L[i] := by
  rcases found_end hk with ⟨rfl, h⟩ | ⟨i, hi, rfl, h⟩
  · exact .inl ⟨longest_unique hs hr ho h, rfl⟩
  · exact .inr ⟨i, hi, rfl, longest_unique hs hr ho h⟩
theorem rtab_slice {w : World} {rm : Nat} {L : List Ent} {mo : Int} {G : List Nat} (h : RTab w rm L mo G) : ∃ q cap, w.cell? ⟨rm, 1, none⟩ = some (.slice q L.length cap) ∧ Ents w q L := by
  obtain ⟨v, h1, h2, -, -⟩ := h
  obtain ⟨q, cap, rfl, -, -, hq⟩ := own_ents h2
  exact ⟨q, cap, (rtab_cells h1).2.1, hq⟩
end Go.Proofs.YthehpnhjfnenoabDoor
