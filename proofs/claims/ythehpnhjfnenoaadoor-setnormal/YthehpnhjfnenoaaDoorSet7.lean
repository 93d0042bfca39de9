/-
  Package set's edgesOf: the edges of two rows of spans, rising, each once.
-/
import Derived.Test.YthehpnhjfnenoaaDoorSet6
import Derived.Lib.SlicesCompact
import Derived.Lib.RowBridge
namespace Go.Proofs.YthehpnhjfnenoaaDoor
open Go.RowKit Go.Sort Go.Lib

theorem up1_snoc {L : List Int} {x : Int} (h : Up1 L) (hx : ∀ y ∈ L, y < x) : Up1 (L ++ [x]) := by
  induction L with
  | nil => exact ⟨by simp, trivial⟩
  | cons a L ih =>
    refine ⟨?_, ih h.2 (fun y hy => hx y (by simp [hy]))⟩
    intro b hb
    rcases List.mem_append.1 hb with hb | hb
    · exact h.1 b hb
    · simp at hb; subst hb; exact hx a (by simp)
theorem compact_up (d : Array Int) (hs : ∀ i j, i < j → j < d.size → d[i]! ≤ d[j]!) (m : Nat) (hm : m ≤ d.size) : Up1 (compactUpTo d m) ∧ ∀ x, x ∈ compactUpTo d m ↔ ∃ j, j < m ∧ d[j]! = x := by
  induction m with
  | zero => exact ⟨trivial, fun x => by simp [compactUpTo]⟩
  | succ m ih =>
    obtain ⟨h1, h2⟩ := ih (by omega)
    rw [compactUpTo_succ]
    by_cases hk : keeps d m = true
    · rw [if_pos hk]
      constructor
      · refine up1_snoc h1 fun y hy => ?_
        obtain ⟨j, hj, rfl⟩ := (h2 y).1 hy
        have hle : d[j]! ≤ d[m - 1]! := by
          by_cases he : j = m - 1
          · rw [he]; exact Int.le_refl _
          · exact hs j (m - 1) (by omega) (by omega)
        have hlt : d[m - 1]! ≤ d[m]! := hs (m - 1) m (by omega) (by omega)
        have hne : d[m]! ≠ d[m - 1]! := fun e => by
          rw [keeps_neg (by omega) e] at hk
          simp at hk
        omega
      · intro x
        rw [List.mem_append, h2]
        constructor
        · rintro (⟨j, hj, e⟩ | h)
          · exact ⟨j, by omega, e⟩
          · simp at h; exact ⟨m, by omega, h.symm⟩
        · rintro ⟨j, hj, e⟩
          by_cases hjm : j = m
          · right; rw [← e, hjm]; simp
          · left; exact ⟨j, by omega, e⟩
    · rw [if_neg hk, List.append_nil]
      refine ⟨h1, fun x => ?_⟩
      rw [h2]
      constructor
      · rintro ⟨j, hj, e⟩; exact ⟨j, by omega, e⟩
      · rintro ⟨j, hj, e⟩
        by_cases hjm : j = m
        · have hm0 : 0 < m := by
            rcases Nat.eq_zero_or_pos m with h0 | h0
            · exact absurd (keeps_lt_one d m (by omega)) hk
            · exact h0
          have hee : d[m]! = d[m - 1]! := by
            by_cases hh : d[m]! = d[m - 1]!
            · exact hh
            · exact absurd (keeps_pos hh) hk
          exact ⟨m - 1, by omega, by rw [← hee, ← hjm]; exact e⟩
        · exact ⟨j, by omega, e⟩
def sortI (zs : List Int) : List Int := zs.mergeSort fun x y => decide (x ≤ y)
theorem compact_sorted (zs : List Int) : Up1 (compact (sortI zs)) ∧ ∀ x, x ∈ compact (sortI zs) ↔ x ∈ zs := by
  have hp : (sortI zs).Pairwise fun x y => decide (x ≤ y) = true := List.pairwise_mergeSort (fun a b c h1 h2 => by simp at *; omega) (fun a b => by simp; omega) zs
  have hperm : (sortI zs).Perm zs := List.mergeSort_perm zs _
  obtain ⟨h1, h2⟩ := compact_up (sortI zs).toArray (fun i j hij hj => by
    have hj' : j < (sortI zs).length := by simpa using hj
    rw [getElem!_pos (sortI zs).toArray i (by simp; omega), getElem!_pos (sortI zs).toArray j (by simpa using hj')]
    have := List.pairwise_iff_getElem.1 hp i j (by omega) hj' hij
    simpa using this) (sortI zs).length (by simp)
  refine ⟨h1, fun x => ?_⟩
  rw [← hperm.mem_iff]
  refine (h2 x).trans ⟨?_, ?_⟩
  · rintro ⟨j, hj, e⟩
    rw [getElem!_pos (sortI zs).toArray j (by simpa using hj)] at e
    rw [← e]
    simp
  · intro hx
    obtain ⟨j, hj, e⟩ := List.getElem_of_mem hx
    exact ⟨j, hj, by rw [getElem!_pos (sortI zs).toArray j (by simpa using hj)]; simpa using e⟩
def edgesL (Z : List (Int × Int)) : List Int := Z.flatMap fun s => [s.1, s.2]
theorem edgesL_length (Z : List (Int × Int)) : (edgesL Z).length = Z.length * 2 := by
  induction Z with
  | nil => rfl
  | cons s r ih => simp only [edgesL, List.flatMap_cons, List.length_append, List.length_cons, List.length_nil] at *; omega
theorem edgesL_take (Z : List (Int × Int)) (k : Nat) (hk : k < Z.length) : edgesL (Z.take k) ++ [Z[k].1, Z[k].2] = edgesL (Z.take (k + 1)) := by
  rw [List.take_succ_eq_append_getElem hk]; unfold edgesL; rw [List.flatMap_append]; rfl
theorem edgesL_mem {Z : List (Int × Int)} {s : Int × Int} (h : s ∈ Z) : s.1 ∈ edgesL Z ∧ s.2 ∈ edgesL Z := by
  constructor <;> exact List.mem_flatMap.2 ⟨s, h, by simp⟩

/-- what a slice at p holds: numbers. -/
def Ints (w : World) (p : Option Addr) (E : List Int) : Prop := ∀ i (h : i < E.length), ∃ b o, p = some ⟨b, o, none⟩ ∧ w.cell? ⟨b, o + i, none⟩ = some (.int .i64 E[i])
theorem Ints.below {w w' : World} {p : Option Addr} {E : List Int} (h : Ints w p E) (hb : Below w.heap.size w w') : Ints w' p E := fun i hi => by
  obtain ⟨b, o, e, c⟩ := h i hi
  exact ⟨b, o, e, cell_kept hb c⟩
def intsV (E : List Int) : List Value := E.map fun x => .int .i64 x
theorem infoInt : (Tryd.prog.info? 3).map (fun i => (i.zero, i.size, i.bytes)) = some (some (.int .i64 0), 1, 8) := by kernel_rfl
/-- two more numbers at a row's end. -/
theorem wp_push2 {P : Program} {W : World} {ops : Array Oper} {rest : List Oper} {o : Oper} {a : Act} {Q : Exit → Act → World → Prop} (hgd : o.guard = none) (s x : Operand) (t : TypeId)
    (ho : o.op = .call { callee := .builtin .append, args := #[s, x], argTypes := #[t, t] })
    (base : Nat) (e : TypeId) (i : TypeInfo) (ht : P.underlying t = some (.slice e)) (hi : P.info? e = some i) (hz : i.zero = some (.int .i64 0)) (hsize : i.size = 1) (hby : i.bytes = 8)
    (v : Value) (O : List Int) (hs : a.eval s = v) (hown : W.ownsRow base e 1 v O.length (intsV O)) (x0 x1 : Int) (g : Nat) (hx : a.eval x = .slice (some ⟨g, 0, none⟩) 2 2) (hg : W.heap.size = g) (O' : List Int) (hO' : Hid (O ++ [x0, x1] = O'))
    (hO : O.length ≤ 4398046511104) (hbase : base ≤ W.heap.size)
    (h : ∀ v' w', w'.ownsRow base e 1 v' O'.length (intsV O') → Below base W w' → Keeps W w' v v' → wpList P ops Q rest (a.put o.dst v') w') : wpList P ops Q (o :: rest) a (W.alloc (.cells #[.int .i64 x0, .int .i64 x1] e)) := by
  subst hg
  refine wpList_append_own _ hgd s x t ho base e i (.int .i64 0) 1 8 ht hi hz hsize hby rfl (by decide) v O.length (intsV O) hs (hown.alloc _) ⟨W.heap.size, 0, none⟩ 2 2 [.int .i64 x0, .int .i64 x1] hx rfl ?_ ?_ ?_ ?_ ?_ ?_
  · intro j u hj
    match j, hj with
    | 0, hj => simp at hj; subst hj; simp [Addr.add]
    | 1, hj => simp at hj; subst hj; simp [Addr.add]
  · intro u hu; simp at hu; rcases hu with rfl | rfl <;> rfl
  · unfold maxLen; omega
  · omega
  · simp; omega
  · intro v' w1 hown' hgrow hnn
    rw [← hO'.out] at h
    refine h v' w1 (by simpa [intsV] using hown') (((Below.refl base W).alloc hbase _).grown hgrow (by simp; omega) (fun j hj => (hown.lt j hj).1)) ⟨fun k hk hne => by rw [hgrow.block k (by simp; omega) hne]; exact Below.heap_alloc W _ k hk, fun e => by have := (hnn.1 e).2; omega⟩
theorem box_apart1 {w : World} {B b n sz : Nat} {e t : TypeId} {v : Value} {xs : List Value} {c : Array Value} (h : w.ownsRow B e sz v n xs) (hb : w.heap[b]? = some (.cells c t (0, 0))) (hne : t ≠ e) : some b ≠ v.ownBlock := by
  intro he
  rcases h.2 with ⟨hv, -⟩ | ⟨g, cap, cur, hv, -, hg, -⟩
  · rw [hv] at he; cases he
  · rw [hv] at he
    simp only [Value.ownBlock, Option.some.injEq] at he
    subst he
    rw [hb] at hg
    simp only [Option.some.injEq, Obj.cells.injEq] at hg
    exact hne hg.2.1
end Go.Proofs.YthehpnhjfnenoaaDoor
