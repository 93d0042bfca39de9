/-
  A row of routes of one's own, its lists in other blocks; one more at its end.
-/
import Derived.Test.YtkcacdlgmapjjaaRouteBase
import Derived.Test.YtkcacdlgmapjjaaKeptBase
import Derived.Test.YtkcacdlgmapjjaaOwnBase
namespace Go.Proofs.Ytkcacdlgmapjjaa
open Go.RowKit

/-- a route and where its two lists lie. -/
structure RV where
  r : Ro
  p : Option Addr
  cp : Nat
  q : Option Addr
  cq : Nat
def enc8 (x : RV) : List Value := [.int .i64 x.r.dst.1, .int .i64 x.r.dst.2, .slice x.p x.r.att.path.length x.cp, .int .i64 x.r.att.pref, .int .i64 x.r.att.med, .int .i64 x.r.att.org, .slice x.q x.r.att.tags.length x.cq, .int .i64 x.r.frm]
def flat8 (L : List RV) : List Value := L.flatMap enc8
theorem flat8_cons (x : RV) (L : List RV) : flat8 (x :: L) = enc8 x ++ flat8 L := rfl
theorem flat8_append (L M : List RV) : flat8 (L ++ M) = flat8 L ++ flat8 M := by simp [flat8]
theorem flat8_one (x : RV) : flat8 [x] = enc8 x := by simp [flat8]
theorem flat8_length (L : List RV) : (flat8 L).length = L.length * 8 := by
  induction L with
  | nil => rfl
  | cons x L ih => rw [flat8_cons, List.length_append, ih]; simp only [enc8, List.length_cons, List.length_nil]; omega
theorem flat8_get (L : List RV) (i : Nat) (h : i < L.length) (j : Nat) (hj : j < 8) : (flat8 L)[i * 8 + j]? = (enc8 L[i])[j]? := by
  induction L generalizing i with
  | nil => simp at h
  | cons x L ih =>
    rw [flat8_cons]
    have hx : (enc8 x).length = 8 := rfl
    cases i with
    | zero => rw [List.getElem?_append_left (by omega), Nat.zero_mul, Nat.zero_add]; rfl
    | succ i =>
      rw [List.getElem?_append_right (by omega), show (i + 1) * 8 + j - (enc8 x).length = i * 8 + j by omega]
      exact ih i (by simp at h; omega)
/-- a list of whole numbers that lies in no one of these blocks. -/
def IntsOff (w : World) (p : Option Addr) (L : List Int) (F : Nat → Prop) : Prop := Ints w p L ∧ ∀ b o, p = some ⟨b, o, none⟩ → 0 < L.length → ¬ F b
/-- a row of routes of one's own, from base on; its lists in blocks that are not F, nor the row's own. -/
def OwnRo (w : World) (base : Nat) (v : Value) (L : List Ro) (F : Nat → Prop) : Prop :=
  ∃ X : List RV, X.map (·.r) = L ∧ w.ownsRow base 31 8 v X.length (flat8 X) ∧ ∀ x ∈ X, IntsOff w x.p x.r.att.path (fun b => F b ∨ v.ownBlock = some b) ∧ IntsOff w x.q x.r.att.tags (fun b => F b ∨ v.ownBlock = some b)
theorem ownRo_nil (w : World) (base : Nat) (F : Nat → Prop) : OwnRo w base (.slice none 0 0) [] F :=
  ⟨[], rfl, World.ownsRow_nil _ _ _ _, fun x hx => by simp at hx⟩
/-- all but the blocks F stands. -/
theorem IntsOff.kept {w w' : World} {p : Option Addr} {L : List Int} {F : Nat → Prop} (h : IntsOff w p L F) (hk : ∀ k, k < w.heap.size → ¬ F k → w'.heap[k]? = w.heap[k]?) : IntsOff w' p L F :=
  ⟨fun i hi => by
    obtain ⟨b, o, e, c⟩ := h.1 i hi
    refine ⟨b, o, e, ?_⟩
    rw [World.cell?_of_block (w := w) (hk b (cell_lt' c) (h.2 b o e (by omega)))]
    exact c, h.2⟩
theorem IntsOff.mono {w : World} {p : Option Addr} {L : List Int} {F G : Nat → Prop} (h : IntsOff w p L F) (hg : ∀ b, b < w.heap.size → G b → F b) : IntsOff w p L G :=
  ⟨h.1, fun b o e hl hb => by
    obtain ⟨b', o', e', c⟩ := h.1 0 hl
    rw [e] at e'
    simp only [Option.some.injEq, Addr.mk.injEq, and_true] at e'
    have hlt := cell_lt' c
    rw [← e'.1] at hlt
    exact h.2 b o e hl (hg b hlt hb)⟩
/-- what stands but for the blocks F, and the row's own. -/
theorem OwnRo.kept {w w' : World} {base : Nat} {v : Value} {L : List Ro} {F : Nat → Prop} (h : OwnRo w base v L F)
    (hk : ∀ k, k < w.heap.size → ¬ F k → w'.heap[k]? = w.heap[k]?) (hv : ∀ b, v.ownBlock = some b → ¬ F b) : OwnRo w' base v L F := by
  obtain ⟨X, e, hr, hx⟩ := h
  refine ⟨X, e, ?_, fun x hm => ⟨(hx x hm).1.kept fun k h1 h2 => hk k h1 fun hf => h2 (.inl hf), (hx x hm).2.kept fun k h1 h2 => hk k h1 fun hf => h2 (.inl hf)⟩⟩
  refine ⟨hr.1, ?_⟩
  rcases hr.2 with hn | ⟨g, cap, cur, rfl, hb, hg, rest⟩
  · exact .inl hn
  · refine .inr ⟨g, cap, cur, rfl, hb, ?_, rest⟩
    rw [hk g (Array.getElem?_eq_some_iff.1 hg).1 (hv g rfl)]
    exact hg
theorem OwnRo.below {w w' : World} {base : Nat} {v : Value} {L : List Ro} {F : Nat → Prop} (h : OwnRo w base v L F) (hb : Below w.heap.size w w') : OwnRo w' base v L F := by
  obtain ⟨X, e, hr, hx⟩ := h
  exact ⟨X, e, own_below hr hb, fun x hm => ⟨(hx x hm).1.kept fun k h1 _ => hb.block k h1, (hx x hm).2.kept fun k h1 _ => hb.block k h1⟩⟩
theorem OwnRo.routes {w : World} {base : Nat} {v : Value} {L : List Ro} {F : Nat → Prop} (h : OwnRo w base v L F) : ∃ p cap, v = .slice p L.length cap ∧ L.length ≤ cap ∧ cap ≤ maxLen ∧ Routes w p L := by
  obtain ⟨X, rfl, hr, hx⟩ := h
  rcases hr.2 with ⟨hv, h0⟩ | ⟨g, cap, cur, hv, hb, hg, h1, h2, h3, h4⟩
  · have : X = [] := List.eq_nil_of_length_eq_zero h0
    subst this
    exact ⟨none, 0, hv, by simp, by simp, routes_nil _ _⟩
  · refine ⟨some ⟨g, 0, none⟩, cap, by rw [List.length_map]; exact hv, by rw [List.length_map]; exact h1, h2, fun i hi => ⟨g, 0, rfl, ?_⟩⟩
    have hi' : i < X.length := by simpa using hi
    have hc : ∀ j (hj : j < 8), w.cell? ⟨g, i * 8 + j, none⟩ = (enc8 X[i])[j]? := fun j hj => by
      rw [← flat8_get X i hi' j hj]
      have hl : i * 8 + j < (flat8 X).length := by rw [flat8_length]; omega
      have := hr.cells (g := g) (by rw [hv]; rfl) (i * 8 + j) (flat8 X)[i * 8 + j] (List.getElem?_eq_getElem hl)
      rw [Addr.add_lit, Nat.zero_add] at this
      rw [this, List.getElem?_eq_getElem hl]
    have hm := hx X[i] (List.getElem_mem hi')
    rw [List.getElem_map]
    refine ⟨X[i].p, X[i].cp, X[i].q, X[i].cq, ?_, ?_, ?_, ?_, ?_, ?_, ?_, ?_, hm.1.1, hm.2.1⟩
    · rw [Nat.zero_add]; exact hc 0 (by omega)
    · rw [Nat.zero_add]; exact hc 1 (by omega)
    · rw [Nat.zero_add]; exact hc 2 (by omega)
    · rw [Nat.zero_add]; exact hc 3 (by omega)
    · rw [Nat.zero_add]; exact hc 4 (by omega)
    · rw [Nat.zero_add]; exact hc 5 (by omega)
    · rw [Nat.zero_add]; exact hc 6 (by omega)
    · rw [Nat.zero_add]; exact hc 7 (by omega)
theorem infoRoute : (Try.prog.info? 31).map (fun i => (i.zero, i.size, i.bytes)) = some (some (.agg #[.int .i64 0, .int .i64 0, .slice none 0 0, .int .i64 0, .int .i64 0, .int .i64 0, .slice none 0 0, .int .i64 0]), 8, 96) := by kernel_rfl

/-- what an append to a row of one's own makes: the row lies where it lay, or in a new block. -/
theorem run_grow_own {P : Program} (w : World) (base : Nat) (t ty e : TypeId) (i : TypeInfo) (z : Value) (size bytes : Nat) (ht : P.underlying t = some (.slice e)) (hi : P.info? e = some i) (hz : i.zero = some z)
    (hsize : i.size = size) (hby : i.bytes = bytes) (hzs : z.cells.size = size) (hsz : 0 < size)
    (v : Value) (n : Nat) (xs : List Value) (hown : w.ownsRow base e size v n xs)
    (a : Addr) (m c : Nat) (news : List Value) (hl : news.length = m * size) (hnews : ∀ j u, news[j]? = some u → w.cell? (a.add j) = some u) (h1 : ∀ u ∈ news, u.oneCell' = true)
    (h63 : n + m ≤ maxLen) (hbytes : (n + m) * bytes ≤ 140737488355328) (hbase : base ≤ w.heap.size) :
    ∃ v' w', (Builtin.append_ #[t, t] ty #[v, .slice (some a) m c]).run P w = .ok v' w' ∧ w'.ownsRow base e size v' (n + m) (xs ++ news) ∧ w.grownBy w' v.ownBlock ∧
      (v'.ownBlock = v.ownBlock ∨ v'.ownBlock = some w.heap.size) := by
  obtain ⟨v', w', hr, h2, h3, -⟩ := run_append_own (P := P) w base t ty e i z size bytes ht hi hz hsize hby hzs hsz v n xs hown a m c news hl hnews h1 h63 hbytes hbase
  refine ⟨v', w', hr, h2, h3, ?_⟩
  rcases hown.2 with ⟨rfl, rfl⟩ | ⟨g, cap, cur, rfl, hbg, hg, hnc, hcm, hcs, htake⟩
  · by_cases hm : m = 0
    · subst hm
      left
      rcases h2.2 with ⟨e2, -⟩ | ⟨g', cap', cur', -, -, -, hn, -⟩
      · rw [e2]
      · have hn0 : news = [] := List.eq_nil_of_length_eq_zero (by simpa using hl)
        subst hn0
        have : (Builtin.append_ #[t, t] ty #[.slice none 0 0, .slice (some a) 0 c]).run P w = .ok (.slice none 0 0) w := by
          simp [Builtin.append_, run_underlying ht, sizeOf, typeInfo, hi, Builtin.lenOf, Builtin.firstCells, loadCells, loadCellsFrom]
        rw [this] at hr
        cases hr
        rfl
    · right
      have hr2 := run_append_nil (P := P) w t ty e i z ht hi hz a m c news (by rw [hsize]; exact hl) hnews (by omega) (by unfold maxLen at h63; omega) (by rw [hby]; have hb := hbytes; simp only [Nat.zero_add] at hb; omega)
      rw [hr2] at hr
      cases hr
      rfl
  · by_cases hroom : n + m ≤ cap
    · left
      have hfit : n * i.size + news.length ≤ cur.size := by rw [hl, hcs, hsize, ← Nat.add_mul]; exact Nat.mul_le_mul_right _ hroom
      have hr2 := run_append_room (P := P) w t ty e i ht hi g n cap cur hg a m c news (by rw [hsize]; exact hl) hnews h1 hroom hfit
      rw [hr2] at hr
      cases hr
      rfl
    · right
      have holds : ∀ j u, xs[j]? = some u → w.cell? ((⟨g, 0, none⟩ : Addr).add j) = some u := hown.cells (g := g) rfl
      have hr2 := run_append_grow (P := P) w t ty e i z ht hi hz ⟨g, 0, none⟩ n cap xs (by rw [hsize]; exact hown.1) holds a m c news (by rw [hsize]; exact hl) hnews (by omega) (by unfold maxLen at h63; omega) (growslice_fits (by omega) (by rw [hby]; exact hbytes))
      rw [hr2] at hr
      cases hr
      rfl
theorem enc8_one (x : RV) : ∀ u ∈ enc8 x, u.oneCell' = true := by
  intro u hu
  simp [enc8] at hu
  rcases hu with rfl | rfl | rfl | rfl | rfl | rfl | rfl | rfl <;> rfl
/-- one more route at a row's end. -/
theorem op_push8 {P : Program} {W : World} {o : Oper} {a : Act} {K : Act → World → Prop} {Q : Exit → Act → World → Prop} (s x : Operand) (t : TypeId)
    (ho : o.op = .call { callee := .builtin .append, args := #[s, x], argTypes := #[t, t] })
    (base : Nat) (i : TypeInfo) (ht : P.underlying t = some (.slice 31)) (hi : P.info? 31 = some i) (hz : i.zero = some (.agg #[.int .i64 0, .int .i64 0, .slice none 0 0, .int .i64 0, .int .i64 0, .int .i64 0, .slice none 0 0, .int .i64 0])) (hsize : i.size = 8) (hby : i.bytes = 96)
    (F : Nat → Prop) (v : Value) (O : List Ro) (hs : a.eval s = v) (hown : OwnRo W base v O F) (y : RV) (hy : IntsOff W y.p y.r.att.path (fun b => F b ∨ v.ownBlock = some b) ∧ IntsOff W y.q y.r.att.tags (fun b => F b ∨ v.ownBlock = some b)) (cells : Array Value) (hc : cells.toList = enc8 y) (g : Nat) (hx : a.eval x = .slice (some ⟨g, 0, none⟩) 1 1) (hg : W.heap.size = g) (O' : List Ro) (hO' : Hid (O ++ [y.r] = O'))
    (hO : O.length ≤ 1000000) (hbase : base ≤ W.heap.size)
    (h : ∀ v' w', OwnRo w' base v' O' F → Below base W w' → (∀ k, k < W.heap.size → some k ≠ v.ownBlock → w'.heap[k]? = W.heap[k]?) → (v'.ownBlock = v.ownBlock ∨ ∃ b, v'.ownBlock = some b ∧ W.heap.size < b) → W.heap.size < w'.heap.size → K (a.put o.dst v') w') : o.wp P a (W.alloc (.cells cells 31)) K Q := by
  subst hg
  obtain ⟨X, hX, hr, hX2⟩ := hown
  have hlX : X.length = O.length := by rw [← hX, List.length_map]
  have hcell : ∀ j u, (enc8 y)[j]? = some u → (W.alloc (.cells cells 31)).cell? ((⟨W.heap.size, 0, none⟩ : Addr).add j) = some u := fun j u hj => by
    rw [Addr.add_lit, Nat.zero_add, World.cell?_alloc_at _ _ _ _ rfl]
    rw [← hc] at hj
    simpa using hj
  obtain ⟨v', w', hrun, h2, h3, h4⟩ := run_grow_own (P := P) (W.alloc (.cells cells 31)) base t o.type 31 i _ 8 96 ht hi hz hsize hby rfl (by decide) v X.length (flat8 X) (hr.alloc _) ⟨W.heap.size, 0, none⟩ 1 1 (enc8 y) rfl hcell (enc8_one y) (by unfold maxLen; omega) (by omega) (by simp; omega)
  unfold Oper.wp execOp
  simp only [ho, resolve, invoke, builtin, Sem.run_bind, Sem.run_pure, Result.andThen_ok, List.map_toArray, List.map_cons, List.map_nil, hs, hx, hrun]
  have hsz : (W.alloc (.cells cells 31)).heap.size = W.heap.size + 1 := by simp
  have hkeep : ∀ k, k < W.heap.size → some k ≠ v.ownBlock → w'.heap[k]? = W.heap[k]? := fun k hk hne => by
    rw [h3.block k (by omega) hne]; exact Below.heap_alloc W _ k hk
  have hb4 : v'.ownBlock = v.ownBlock ∨ v'.ownBlock = some (W.heap.size + 1) := by rw [hsz] at h4; exact h4
  have hoff : ∀ (p : Option Addr) (L : List Int), IntsOff W p L (fun b => F b ∨ v.ownBlock = some b) → IntsOff w' p L (fun b => F b ∨ v'.ownBlock = some b) := fun p L hp => by
    have hk := hp.kept (w' := w') (fun k h1 h2 => hkeep k h1 fun e => h2 (.inr e.symm))
    refine ⟨hk.1, fun b o' e hl => ?_⟩
    have hn := hp.2 b o' e hl
    obtain ⟨b2, o2, e2, c2⟩ := hp.1 0 hl
    rw [e] at e2
    simp only [Option.some.injEq, Addr.mk.injEq, and_true] at e2
    have hlt := cell_lt' c2
    rw [← e2.1] at hlt
    rintro (hf | hf)
    · exact hn (.inl hf)
    · rcases hb4 with h5 | h5
      · exact hn (.inr (h5 ▸ hf))
      · rw [h5] at hf
        simp only [Option.some.injEq] at hf
        simp only at hlt
        omega
  refine h v' w' ⟨X ++ [y], by rw [List.map_append, hX, List.map_singleton]; exact hO'.out, by rw [flat8_append, flat8_one, List.length_append]; exact h2, fun x hm => ?_⟩ ?_ hkeep ?_ ?_
  · rcases List.mem_append.1 hm with hm | hm
    · exact ⟨hoff _ _ (hX2 x hm).1, hoff _ _ (hX2 x hm).2⟩
    · simp only [List.mem_singleton] at hm
      subst hm
      exact ⟨hoff _ _ hy.1, hoff _ _ hy.2⟩
  · exact ((Below.refl base W).alloc hbase _).grown h3 (by simp; omega) (fun j hj => (hr.lt j hj).1)
  · rcases hb4 with h5 | h5
    · exact .inl h5
    · exact .inr ⟨_, h5, by omega⟩
  · have := h3.size
    omega
theorem wp_push8 {P : Program} {W : World} {ops : Array Oper} {rest : List Oper} {o : Oper} {a : Act} {Q : Exit → Act → World → Prop} (hgd : o.guard = none) (s x : Operand) (t : TypeId)
    (ho : o.op = .call { callee := .builtin .append, args := #[s, x], argTypes := #[t, t] })
    (base : Nat) (i : TypeInfo) (ht : P.underlying t = some (.slice 31)) (hi : P.info? 31 = some i) (hz : i.zero = some (.agg #[.int .i64 0, .int .i64 0, .slice none 0 0, .int .i64 0, .int .i64 0, .int .i64 0, .slice none 0 0, .int .i64 0])) (hsize : i.size = 8) (hby : i.bytes = 96)
    (F : Nat → Prop) (v : Value) (O : List Ro) (hs : a.eval s = v) (hown : OwnRo W base v O F) (y : RV) (hy : IntsOff W y.p y.r.att.path (fun b => F b ∨ v.ownBlock = some b) ∧ IntsOff W y.q y.r.att.tags (fun b => F b ∨ v.ownBlock = some b)) (cells : Array Value) (hc : cells.toList = enc8 y) (g : Nat) (hx : a.eval x = .slice (some ⟨g, 0, none⟩) 1 1) (hg : W.heap.size = g) (O' : List Ro) (hO' : Hid (O ++ [y.r] = O'))
    (hO : O.length ≤ 1000000) (hbase : base ≤ W.heap.size)
    (h : ∀ v' w', OwnRo w' base v' O' F → Below base W w' → (∀ k, k < W.heap.size → some k ≠ v.ownBlock → w'.heap[k]? = W.heap[k]?) → (v'.ownBlock = v.ownBlock ∨ ∃ b, v'.ownBlock = some b ∧ W.heap.size < b) → W.heap.size < w'.heap.size → wpList P ops Q rest (a.put o.dst v') w') : wpList P ops Q (o :: rest) a (W.alloc (.cells cells 31)) :=
  wpList_plain hgd fun _ hK => op_push8 s x t ho base i ht hi hz hsize hby F v O hs hown y hy cells hc g hx hg O' hO' hO hbase fun v' w' h2 h3 h4 h5 h6 => hK _ _ (h v' w' h2 h3 h4 h5 h6)
/-- five cells of a block of eight, stored. -/
theorem set5of8 {W : World} {N : Nat} {x0 x1 x2 x3 x4 x5 x6 x7 : Value} {t : TypeId} (h : W.heap[N]? = some (.cells #[x0, x1, x2, x3, x4, x5, x6, x7] t (0, 0))) (y2 y3 y4 y5 y6 : Value) :
    (((((W.setCell ⟨N, 2, none⟩ y2).setCell ⟨N, 3, none⟩ y3).setCell ⟨N, 4, none⟩ y4).setCell ⟨N, 5, none⟩ y5).setCell ⟨N, 6, none⟩ y6).heap[N]? = some (.cells #[x0, x1, y2, y3, y4, y5, y6, x7] t (0, 0)) := by
  have h2 := heap_setCell_same W N 2 _ _ y2 h
  have h3 := heap_setCell_same _ N 3 _ _ y3 h2
  have h4 := heap_setCell_same _ N 4 _ _ y4 h3
  have h5 := heap_setCell_same _ N 5 _ _ y5 h4
  have h6 := heap_setCell_same _ N 6 _ _ y6 h5
  simpa using h6
theorem heap_cells8 {w : World} {R : Nat} {x0 x1 x2 x3 x4 x5 x6 x7 : Value} {t : TypeId} (h : w.heap[R]? = some (.cells #[x0, x1, x2, x3, x4, x5, x6, x7] t (0, 0))) :
    w.cell? ⟨R, 0, none⟩ = some x0 ∧ w.cell? ⟨R, 1, none⟩ = some x1 ∧ w.cell? ⟨R, 2, none⟩ = some x2 ∧ w.cell? ⟨R, 3, none⟩ = some x3 ∧ w.cell? ⟨R, 4, none⟩ = some x4 ∧ w.cell? ⟨R, 5, none⟩ = some x5 ∧ w.cell? ⟨R, 6, none⟩ = some x6 ∧ w.cell? ⟨R, 7, none⟩ = some x7 ∧ (∀ o, w.frozen? ⟨R, o, none⟩ = false) := by
  refine ⟨?_, ?_, ?_, ?_, ?_, ?_, ?_, ?_, fun o => ?_⟩ <;> simp [World.cell?, World.frozen?, h]
theorem ownRo_set8 {W : World} {S : Nat} {v : Value} {L : List Ro} {N : Nat} (h : OwnRo W S v L (fun b => b < S ∨ b = N)) (hv : v.ownBlock ≠ some N) (hS : ∀ b, v.ownBlock = some b → S ≤ b) (k : Nat) (u : Value) : OwnRo (W.setCell ⟨N, k, none⟩ u) S v L (fun b => b < S ∨ b = N) :=
  h.kept (fun i _ hn => Below.heap_setCell _ _ _ _ (by simp only; intro e; exact hn (.inr e))) (fun b hb hf => by
    rcases hf with hf | hf
    · have := hS b hb; omega
    · exact hv (hf ▸ hb))

theorem OwnRo.own {w : World} {base : Nat} {v : Value} {L : List Ro} {F : Nat → Prop} (h : OwnRo w base v L F) : ∃ n xs, w.ownsRow base 31 8 v n xs := by
  obtain ⟨X, -, h1, -⟩ := h
  exact ⟨_, _, h1⟩
theorem OwnRo.mono {w : World} {base : Nat} {v : Value} {L : List Ro} {F G : Nat → Prop} (h : OwnRo w base v L F) (hg : ∀ b, b < w.heap.size → G b → F b) : OwnRo w base v L G := by
  obtain ⟨X, h1, h2, h3⟩ := h
  exact ⟨X, h1, h2, fun x hx => ⟨(h3 x hx).1.mono fun b hb hgb => hgb.imp (hg b hb) id, (h3 x hx).2.mono fun b hb hgb => hgb.imp (hg b hb) id⟩⟩
end Go.Proofs.Ytkcacdlgmapjjaa
