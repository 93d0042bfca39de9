/-
  The document's table (herepathref1.Table) in memory: a list that rises; its mathematics.
-/
import Derived.Test.YthehpnhjfnenoabDoorFibSetAll
import Derived.Test.YthehpnhjfnenoabDoorFibOrder0
import Derived.Test.YthehpnhjfnenoabDoorRef3
import Derived.Laws.AppendOwnNone
namespace Go.Proofs.YthehpnhjfnenoabDoor
open Go.RowKit

theorem flat3_one' (L : List Ent) : ∀ u ∈ flat3 L, u.oneCell' = true := by
  intro u hu
  simp [flat3, enc3] at hu
  obtain ⟨a, b, c, -, rfl | rfl | rfl⟩ := hu <;> rfl
def Kind3 (v : Value) (n : Nat) : Prop := (v = .slice none 0 0 ∧ n = 0) ∨ ∃ ad c, v = .slice (some ad) n c
/-- all of a list behind a row's end. -/
theorem wp_addAll3 {P : Program} {W : World} {ops : Array Oper} {rest : List Oper} {o : Oper} {a : Act} {Q : Exit → Act → World → Prop} (hgd : o.guard = none) (s x : Operand) (t : TypeId)
    (ho : o.op = .call { callee := .builtin .append, args := #[s, x], argTypes := #[t, t] })
    (base : Nat) (e : TypeId) (i : TypeInfo) (ht : P.underlying t = some (.slice e)) (hi : P.info? e = some i) (hz : i.zero = some (.agg #[.int .i64 0, .int .i64 0, .int .i64 0])) (hsize : i.size = 3) (hby : i.bytes = 24)
    (v : Value) (O : List Ent) (hs : a.eval s = v) (hown : W.ownsRow base e 3 v O.length (flat3 O)) (p : Option Addr) (M : List Ent) (n c : Nat) (hx : a.eval x = .slice p n c) (hn : M.length = n) (hk : Kind3 (.slice p n c) n) (hM : Ents W p M) (O' : List Ent) (hO' : Hid (O ++ M = O'))
    (hO : O.length + M.length ≤ 1099511627776) (hbase : base ≤ W.heap.size)
    (h : ∀ v' w', w'.ownsRow base e 3 v' O'.length (flat3 O') → Below base W w' → wpList P ops Q rest (a.put o.dst v') w') : wpList P ops Q (o :: rest) a W := by
  subst hn
  rcases hk with ⟨hk, h0⟩ | ⟨ad, c', hk⟩
  · have hM0 : M = [] := List.eq_nil_of_length_eq_zero h0
    subst hM0
    rw [List.append_nil] at hO'
    have := hO'.out
    subst this
    rw [hk] at hx
    exact wpList_append_own_none hgd s x t ho base e i 3 ht hi v O.length (flat3 O) hs hown hx (h v W hown (Below.refl _ _))
  · simp only [Value.slice.injEq, true_and] at hk
    obtain ⟨rfl, rfl⟩ := hk
    refine wpList_append_own _ hgd s x t ho base e i (.agg #[.int .i64 0, .int .i64 0, .int .i64 0]) 3 24 ht hi hz hsize hby rfl (by decide) v O.length (flat3 O) hs hown ad M.length c (flat3 M) hx (flat3_length M) ?_ (flat3_one' M) (by unfold maxLen; omega) (by omega) hbase ?_
    · intro j u hj
      have hjl : j < M.length * 3 := by
        have := (List.getElem?_eq_some_iff.1 hj).1
        rwa [flat3_length] at this
      obtain ⟨b, o', e', c0, c1, c2⟩ := hM (j / 3) (by omega)
      simp only [Option.some.injEq] at e'
      subst e'
      obtain ⟨f0, f1, f2⟩ := flat3_get M (j / 3) (by omega)
      have hadd : (⟨b, o', none⟩ : Addr).add j = ⟨b, o' + j, none⟩ := by
        unfold Addr.add
        split
        · rename_i h; subst h; rfl
        · rfl
      rw [hadd]
      rcases (show j % 3 = 0 ∨ j % 3 = 1 ∨ j % 3 = 2 by omega) with hm | hm | hm
      · have ej : j / 3 * 3 = j := by omega
        rw [ej] at f0 c0
        rw [f0] at hj
        cases hj
        exact c0
      · have ej : j / 3 * 3 + 1 = j := by omega
        rw [ej] at f1
        rw [show o' + j / 3 * 3 + 1 = o' + j by omega] at c1
        rw [f1] at hj
        cases hj
        exact c1
      · have ej : j / 3 * 3 + 2 = j := by omega
        rw [ej] at f2
        rw [show o' + j / 3 * 3 + 2 = o' + j by omega] at c2
        rw [f2] at hj
        cases hj
        exact c2
    · intro v' w1 hown' hgrow _
      rw [← hO'.out] at h
      refine h v' w1 ?_ ((Below.refl base W).grown hgrow hbase (fun j hj => (hown.lt j hj).1))
      rw [flat3_append, List.length_append]
      exact hown'
theorem own_same {w w' : World} {base : Nat} {e : TypeId} {size : Nat} {v : Value} {n : Nat} {xs : List Value} (h : w.ownsRow base e size v n xs) (hs : ∀ g, v.ownBlock = some g → w'.heap[g]? = w.heap[g]?) : w'.ownsRow base e size v n xs := by
  obtain ⟨h1, h2⟩ := h
  refine ⟨h1, ?_⟩
  rcases h2 with h2 | ⟨g, cap, cur, rfl, hb, hg, r⟩
  · exact .inl h2
  · exact .inr ⟨g, cap, cur, rfl, hb, by rw [hs g rfl]; exact hg, r⟩
theorem own_less {w : World} {base base' : Nat} {e : TypeId} {size : Nat} {v : Value} {n : Nat} {xs : List Value} (h : w.ownsRow base e size v n xs) (hb : base' ≤ base) : w.ownsRow base' e size v n xs :=
  ⟨h.1, h.2.imp id fun ⟨g, cap, cur, h1, h2, h3⟩ => ⟨g, cap, cur, h1, Nat.le_trans hb h2, h3⟩⟩
theorem own_all {w w' : World} {base : Nat} {e : TypeId} {size : Nat} {v : Value} {n : Nat} {xs : List Value} (h : w.ownsRow base e size v n xs) (hb : Below w.heap.size w w') : w'.ownsRow base e size v n xs :=
  own_same h fun g hg => hb.block g (h.lt g hg).2
def rtabObj (mo : Int) (v : Value) : Obj := .cells #[.int .i64 mo, v] 67 (0, 0)
/-- the document's table at a block. -/
def RTab (w : World) (rb : Nat) (L : List Ent) (mo : Int) (G : List Nat) : Prop :=
  ∃ v, w.heap[rb]? = some (rtabObj mo v) ∧ w.ownsRow 0 38 3 v L.length (flat3 L) ∧ v.ownBlock ≠ some rb ∧ rb :: v.ownBlock.toList = G
theorem rtab_cells {w : World} {rb : Nat} {mo : Int} {v : Value} (h : w.heap[rb]? = some (rtabObj mo v)) : w.cell? ⟨rb, 0, none⟩ = some (.int .i64 mo) ∧ w.cell? ⟨rb, 1, none⟩ = some v ∧ ∀ k, w.frozen? ⟨rb, k, none⟩ = false := by
  refine ⟨?_, ?_, fun k => ?_⟩ <;> simp [World.cell?, World.frozen?, h, rtabObj]
theorem RTab.lt {w : World} {rb : Nat} {L : List Ent} {mo : Int} {G : List Nat} (h : RTab w rb L mo G) : ∀ b ∈ G, b < w.heap.size := by
  obtain ⟨v, h1, h2, h3, rfl⟩ := h
  intro b hb
  rcases List.mem_cons.1 hb with rfl | hb
  · exact (Array.getElem?_eq_some_iff.1 h1).1
  · exact (h2.lt b (by simpa using hb)).2
theorem RTab.kept {F : List Nat} {w w' : World} {rb : Nat} {L : List Ent} {mo : Int} {G : List Nat} (h : RTab w rb L mo G) (hk : Kept F w w') (hd : ∀ b ∈ G, b ∉ F) : RTab w' rb L mo G := by
  obtain ⟨v, h1, h2, h3, rfl⟩ := h
  exact ⟨v, hk.heap h1 (hd rb (by simp)), own_same h2 (fun g hg => hk.block g (h2.lt g hg).2 (hd g (by simp [hg]))), h3, rfl⟩
theorem RTab.below {w w' : World} {rb : Nat} {L : List Ent} {mo : Int} {G : List Nat} (h : RTab w rb L mo G) (hb : Below w.heap.size w w') : RTab w' rb L mo G := h.kept (F := []) (Kept.of_below hb) (by simp)
theorem infoREnt : (Tryd.prog.info? 38).map (fun i => (i.zero, i.size, i.bytes)) = some (some (.agg #[.int .i64 0, .int .i64 0, .int .i64 0]), 3, 24) := by kernel_rfl
/-- behind a table that was given another list. -/
theorem rtab_new {w w1 : World} {rb : Nat} {M : List Ent} {mo : Int} {G : List Nat} {v v' : Value} (h1 : w.heap[rb]? = some (rtabObj mo v)) (hG : rb ∈ G) (hb : Below w.heap.size w w1) (hown : w1.ownsRow w.heap.size 38 3 v' M.length (flat3 M)) :
    ∃ G', RTab (w1.setCell ⟨rb, 1, none⟩ v') rb M mo G' ∧ (∀ b ∈ G', b ∈ G ∨ w.heap.size ≤ b) ∧ Kept G w (w1.setCell ⟨rb, 1, none⟩ v') := by
  have hlt : rb < w.heap.size := (Array.getElem?_eq_some_iff.1 h1).1
  have hne : ∀ g, v'.ownBlock = some g → w.heap.size ≤ g := fun g hg => (hown.lt g hg).1
  refine ⟨rb :: v'.ownBlock.toList, ⟨v', ?_, own_same (own_less hown (Nat.zero_le _)) (fun g hg => ?_), fun h => ?_, rfl⟩, fun b hm => ?_, (Kept.of_below hb).setCell (.inl hG) _⟩
  · have h2 : w1.heap[rb]? = some (rtabObj mo v) := by rw [hb.block rb hlt]; exact h1
    exact node_set h2 1 _
  · have := hne g hg
    exact heap_far _ _ _ _ _ (by omega)
  · have := hne rb h; omega
  · rcases List.mem_cons.1 hm with rfl | hm
    · exact .inl hG
    · exact .inr (hne b (by simpa using hm))

/-- where an entry goes. -/
theorem put_ins {L : List Ent} : ∀ {k : Nat} {e : Ent}, k ≤ L.length → (∀ i (_ : i < k) (h : i < L.length), lt2 L[i].1 e.1 = true) → (∀ h : k < L.length, ¬ lt2 L[k].1 e.1 = true ∧ L[k].1 ≠ e.1) → putL L e = L.take k ++ [e] ++ L.drop k := by
  induction L with
  | nil => intro k e hk _ _; simp at hk; subst hk; rfl
  | cons x L ih =>
    intro k e hk h1 h2
    cases k with
    | zero =>
      obtain ⟨a, b⟩ := h2 (by simp)
      simp only [List.getElem_cons_zero] at a b
      unfold putL
      rw [if_neg a, if_neg b]
      rfl
    | succ k =>
      have a := h1 0 (by omega) (by simp)
      simp only [List.getElem_cons_zero] at a
      unfold putL
      rw [if_pos a, ih (k := k) (by simpa using hk) (fun i hi h => by have := h1 (i + 1) (by omega) (by simp; omega); simpa using this) (fun h => by have := h2 (by simp; omega); simpa using this)]
      simp
theorem put_at {L : List Ent} : ∀ {k : Nat} {e : Ent} (hk : k < L.length), (∀ i (_ : i < k) (h : i < L.length), lt2 L[i].1 e.1 = true) → L[k].1 = e.1 → putL L e = L.set k e := by
  induction L with
  | nil => intro k e hk; simp at hk
  | cons x L ih =>
    intro k e hk h1 h2
    cases k with
    | zero =>
      simp only [List.getElem_cons_zero] at h2
      unfold putL
      rw [if_neg (fun h => lt2_ne h h2), if_pos h2]
      rfl
    | succ k =>
      have a := h1 0 (by omega) (by simp)
      simp only [List.getElem_cons_zero] at a
      unfold putL
      rw [if_pos a, ih (k := k) (by simpa using hk) (fun i hi h => by have := h1 (i + 1) (by omega) (by simp; omega); simpa using this) (by simpa using h2)]
      simp
theorem has_ins {L : List Ent} (hs : Srt L) {k : Nat} {p : Int × Int} (hk : k ≤ L.length) (h1 : ∀ i (_ : i < k) (h : i < L.length), lt2 L[i].1 p = true) (h2 : ∀ h : k < L.length, ¬ lt2 L[k].1 p = true ∧ L[k].1 ≠ p) : hasL L p = false := by
  rw [Bool.eq_false_iff]
  intro hh
  obtain ⟨x, hx, he⟩ := (hasL_iff _ _).1 hh
  obtain ⟨j, hj, rfl⟩ := List.getElem_of_mem hx
  rcases Nat.lt_or_ge j k with h | h
  · exact lt2_ne (h1 j h hj) he
  · rcases Nat.lt_or_ge k j with h' | h'
    · obtain ⟨a, b⟩ := h2 (by omega)
      have hlt := lt2_total a b
      have := List.pairwise_iff_getElem.1 hs k j (by omega) hj h'
      exact lt2_ne (lt2_trans hlt this) he.symm
    · obtain rfl : j = k := by omega
      exact (h2 hj).2 he
theorem drop_at {L : List Ent} (hs : Srt L) {k : Nat} {p : Int × Int} (hk : k < L.length) (hp : L[k].1 = p) : dropL L p = L.take k ++ L.drop (k + 1) := by
  have hne : ∀ j (h : j < L.length), j ≠ k → L[j].1 ≠ p := fun j hj hjk e => by
    rcases Nat.lt_or_gt_of_ne hjk with h | h
    · exact lt2_ne (List.pairwise_iff_getElem.1 hs j k hj hk h) (e.trans hp.symm)
    · exact lt2_ne (List.pairwise_iff_getElem.1 hs k j hk hj h) (hp.trans e.symm)
  have e1 : L = L.take k ++ L[k] :: L.drop (k + 1) := by rw [← List.drop_eq_getElem_cons hk, List.take_append_drop]
  have a1 : dropL (L.take k) p = L.take k := drop_none fun x hx => by
    obtain ⟨j, hj, rfl⟩ := List.getElem_of_mem hx
    rw [List.getElem_take]
    exact hne j _ (by simp at hj; omega)
  have a2 : dropL (L.drop (k + 1)) p = L.drop (k + 1) := drop_none fun x hx => by
    obtain ⟨j, hj, rfl⟩ := List.getElem_of_mem hx
    rw [List.getElem_drop]
    exact hne _ _ (by omega)
  conv => lhs; rw [e1]
  unfold dropL at a1 a2 ⊢
  rw [List.filter_append, List.filter_cons, a1, a2]
  simp [hp]
/-- the place of the longest with an address, of the first j. -/
def FoundK (L : List Ent) (a : Int) (j : Nat) (k : Int) : Prop :=
  (k = -1 ∧ ∀ i (_ : i < j) (h : i < L.length), hasB L[i].1.1 L[i].1.2 a = false) ∨
  ∃ (i : Nat) (h : i < L.length), i < j ∧ k = i ∧ hasB L[i].1.1 L[i].1.2 a = true ∧ ∀ i' (_ : i' < j) (h' : i' < L.length), hasB L[i'].1.1 L[i'].1.2 a = true → L[i'].1.2 ≤ L[i].1.2
theorem found_end {L : List Ent} {a k : Int} (h : FoundK L a L.length k) : (k = -1 ∧ Longest L a none) ∨ ∃ (i : Nat) (h : i < L.length), k = i ∧ Longest L a (some L[i]) := by
  rcases h with ⟨rfl, h⟩ | ⟨i, hi, -, rfl, h1, h2⟩
  · refine .inl ⟨rfl, fun x hx => ?_⟩
    obtain ⟨j, hj, rfl⟩ := List.getElem_of_mem hx
    exact h j hj hj
  · refine .inr ⟨i, hi, rfl, List.getElem_mem hi, h1, fun y hy hya => ?_⟩
    obtain ⟨j, hj, rfl⟩ := List.getElem_of_mem hy
    exact h2 j hj hj hya
theorem found_no {L : List Ent} {a k : Int} {j : Nat} (h : FoundK L a j k) (hj : j < L.length) (hn : hasB L[j].1.1 L[j].1.2 a = false) : FoundK L a (j + 1) k := by
  rcases h with ⟨rfl, h⟩ | ⟨i, hi, hij, rfl, h1, h2⟩
  · refine .inl ⟨rfl, fun i hi hl => ?_⟩
    rcases Nat.lt_or_ge i j with h' | h'
    · exact h i h' hl
    · obtain rfl : i = j := by omega
      exact hn
  · refine .inr ⟨i, hi, by omega, rfl, h1, fun i' hi' hl hh => ?_⟩
    rcases Nat.lt_or_ge i' j with h' | h'
    · exact h2 i' h' hl hh
    · obtain rfl : i' = j := by omega
      rw [hn] at hh; cases hh
theorem found_new {L : List Ent} {a k : Int} {j : Nat} (h : FoundK L a j k) (hj : j < L.length) (hn : hasB L[j].1.1 L[j].1.2 a = true) (hlt : k = -1 ∨ ∃ (i : Nat) (h : i < L.length), k = i ∧ L[i].1.2 < L[j].1.2) : FoundK L a (j + 1) j := by
  refine .inr ⟨j, hj, by omega, rfl, hn, fun i' hi' hl hh => ?_⟩
  rcases Nat.lt_or_ge i' j with h' | h'
  · rcases h with ⟨rfl, h⟩ | ⟨i, hi, hij, rfl, h1, h2⟩
    · rw [h i' h' hl] at hh; cases hh
    · have := h2 i' h' hl hh
      rcases hlt with hlt | ⟨i2, hi2, e, hlt⟩
      · omega
      · obtain rfl : i = i2 := by omega
        omega
  · obtain rfl : i' = j := by omega
    exact Int.le_refl _
theorem found_old {L : List Ent} {a : Int} {i j : Nat} (h : FoundK L a j i) (hi : i < L.length) (hj : j < L.length) (hle : L[j].1.2 ≤ L[i].1.2) : FoundK L a (j + 1) i := by
  rcases h with ⟨h, -⟩ | ⟨i2, hi2, hij, e, h1, h2⟩
  · omega
  · obtain rfl : i = i2 := by omega
    refine .inr ⟨i, hi, by omega, rfl, h1, fun i' hi' hl hh => ?_⟩
    rcases Nat.lt_or_ge i' j with h' | h'
    · exact h2 i' h' hl hh
    · obtain rfl : i' = j := by omega
      exact hle
theorem FoundK.range {L : List Ent} {a k : Int} {j : Nat} (h : FoundK L a j k) : k = -1 ∨ ∃ i : Nat, i < L.length ∧ i < j ∧ k = i := by
  rcases h with ⟨rfl, -⟩ | ⟨i, hi, hij, rfl, -⟩
  · exact .inl rfl
  · exact .inr ⟨i, hi, hij, rfl⟩
end Go.Proofs.YthehpnhjfnenoabDoor
