/-
  Package best's Sort: what it returns.
-/
import Derived.Test.YtkcacdlgmapjjaaBestTop
import Derived.Test.YtkcacdlgmapjjaaStable
import Derived.Test.YtkcacdlgmapjjaaRefSort
import Derived.Laws.MakeOwn
namespace Go.Proofs.Ytkcacdlgmapjjaa
open Go.RowKit Go.Sort Go.Shelf Go.Lib

theorem makeRoutes (n : Nat) (w : World) (hn : n ≤ 1000) : (Instr.makeSlice 22 (.int .i64 (n : Int)) (.int .i64 (n : Int))).run Try.prog w = .ok (.slice (some ⟨w.heap.size, 0, none⟩) n n) (w.alloc (.cells (madeCells ro0V.cells (n * 8)) 31)) := by
  obtain ⟨i0, hi, hz0, hz1, hz2⟩ := infoRv
  have h := run_make (P := Try.prog) w 22 31 i0 ro0V Try.underlying22 hi hz0 .i64 .i64 (n : Int) (n : Int) (by omega) (by omega) (by rw [hz2]; omega) (by omega)
  rw [hz1, Int.toNat_natCast] at h
  exact h
theorem flat8_rep (n i : Nat) (h : i < n * 8) : (flat8 (List.replicate n rv0))[i]? = (enc8 rv0)[i % 8]? := by
  have hq : i / 8 < (List.replicate n rv0).length := by rw [List.length_replicate]; omega
  have f := flat8_get (List.replicate n rv0) (i / 8) hq (i % 8) (Nat.mod_lt _ (by decide))
  rw [show i / 8 * 8 + i % 8 = i by omega, List.getElem_replicate] at f
  exact f
theorem made8 (n : Nat) : (madeCells ro0V.cells (n * 8)).toList = flat8 (List.replicate n rv0) := by
  apply List.ext_getElem?
  intro i
  by_cases h : i < n * 8
  · rw [flat8_rep n i h]
    have hm : i % 8 < 8 := Nat.mod_lt _ (by decide)
    have e1 : (madeCells ro0V.cells (n * 8)).toList[i]? = some (ro0V.cells[i % 8]!) := by
      simp [madeCells, h, ro0V, Value.cells]
    rw [e1]
    rcases hq : i % 8 with _ | _ | _ | _ | _ | _ | _ | _ | m <;> first | rfl | omega
  · rw [List.getElem?_eq_none (by simp [size_madeCells]; omega), List.getElem?_eq_none (by rw [flat8_length, List.length_replicate]; omega)]
theorem set_behind (A B : List Value) (n j : Nat) (h : A.length = n) (v : Value) : (A ++ B).set (n + j) v = A ++ B.set j v := by
  rw [List.set_append_right _ _ (by omega), show n + j - A.length = j by omega]
/-- a row's k-th route, stored. -/
theorem flat8_set (X Z : List RV) (y z : RV) : ((((((((flat8 (X ++ z :: Z)).set (X.length * 8) (.int .i64 y.r.dst.1)).set (X.length * 8 + 1) (.int .i64 y.r.dst.2)).set (X.length * 8 + 2) (.slice y.p y.r.att.path.length y.cp)).set (X.length * 8 + 3) (.int .i64 y.r.att.pref)).set (X.length * 8 + 4) (.int .i64 y.r.att.med)).set (X.length * 8 + 5) (.int .i64 y.r.att.org)).set (X.length * 8 + 6) (.slice y.q y.r.att.tags.length y.cq)).set (X.length * 8 + 7) (.int .i64 y.r.frm) = flat8 (X ++ y :: Z) := by
  have hl := flat8_length X
  rw [flat8_append, flat8_append, flat8_cons, flat8_cons]
  have h0 := set_behind (flat8 X) (enc8 z ++ flat8 Z) _ 0 hl (.int .i64 y.r.dst.1)
  rw [Nat.add_zero] at h0
  rw [h0, set_behind _ _ _ 1 hl, set_behind _ _ _ 2 hl, set_behind _ _ _ 3 hl, set_behind _ _ _ 4 hl, set_behind _ _ _ 5 hl, set_behind _ _ _ 6 hl, set_behind _ _ _ 7 hl]
  rfl
/-- the indices of a list, for the library's sorting. -/
def encX (X : List RV) (i : Nat) : List Value := enc8 (X.getD i rv0)
def cfX (X : List RV) (i j : Nat) : Int := ordR (X.getD i rv0).r (X.getD j rv0).r
theorem cfX_lt (X : List RV) (i j : Nat) : ltOf (cfX X) i j = ltI (keyR (X.getD i rv0).r) (keyR (X.getD j rv0).r) := ordR_lt _ _
theorem cfX_swo (X : List RV) : SWO (ltOf (cfX X)) where
  irrefl i := by rw [cfX_lt]; exact ltI_irrefl _
  trans i j k h g := by rw [cfX_lt] at *; exact ltI_trans h g
  ntrans i j k h g := by
    rw [cfX_lt] at *
    cases e : ltI (keyR (X.getD i rv0).r) (keyR (X.getD k rv0).r) with
    | false => rfl
    | true =>
      cases f : ltI (keyR (X.getD j rv0).r) (keyR (X.getD i rv0).r) with
      | true => have := ltI_trans f e; rw [g] at this; cases this
      | false => rw [ltI_total h f] at e; rw [g] at e; cases e
theorem flatX_get (X : List RV) (t : Nat) (h : t < X.length * 8) : (flatK (encX X) 8 (List.range X.length).toArray)[t]! = (flat8 X)[t]'(by rw [flat8_length]; exact h) := by
  rw [get_flatK _ _ _ _ (by simpa using h)]
  have hq : t / 8 < X.length := by omega
  have f := flat8_get X (t / 8) hq (t % 8) (Nat.mod_lt _ (by decide))
  rw [show t / 8 * 8 + t % 8 = t by omega, List.getElem?_eq_getElem (by rw [flat8_length]; exact h)] at f
  have e1 : (List.range X.length).toArray[t / 8]! = t / 8 := by rw [getElem!_pos _ _ (by simpa using hq)]; simp
  rw [e1]
  unfold encX
  have e2 : X.getD (t / 8) rv0 = X[t / 8] := by simp [List.getD, hq]
  rw [e2]
  have hm : t % 8 < (enc8 X[t / 8]).length := Nat.mod_lt _ (by decide)
  rw [List.getElem?_eq_getElem hm] at f
  rw [Option.some.inj f]
  simp [hm]
theorem sorted_map (X : List RV) (l : List Nat) (h : l.Perm (List.range X.length)) : ((l.map fun i => X.getD i rv0).map (·.r)).Perm (X.map (·.r)) := by
  have : (l.map fun i => X.getD i rv0).Perm X := by
    refine (h.map _).trans ?_
    have e : (List.range X.length).map (fun i => X.getD i rv0) = X := by
      apply List.ext_getElem (by simp)
      intro i h1 h2
      simp [List.getD, h2]
    rw [e]
  exact this.map _
theorem grownRow {w : World} {g n : Nat} {os : Array Obj} (F : Array Value) : w.grownBy (Go.Sort.grow (Go.Sort.putRow id (Go.Sort.ahead w n) g 0 F) os) (some g) := by
  refine ⟨rfl, rfl, rfl, by simp, fun k hk hne => ?_⟩
  rw [Go.Sort.heap_grow_old _ _ (by simpa using hk)]
  have : g ≠ k := fun e => hne (by rw [e])
  simp [putRow, mapBlock, Sort.ahead, Array.getElem?_modify, this]
theorem grownSW {α : Type} [Inhabited α] {enc : α → List Value} {w W : World} {g : Nat} {d : Array α} (h : SWK enc 8 w g 0 d W) : w.grownBy W (some g) := by
  obtain ⟨n, os, rfl⟩ := h
  exact grownRow _
theorem holdsX {w : World} {B g cap : Nat} {e : TypeId} {X : List RV} (h : w.ownsRow B e 8 (.slice (some ⟨g, 0, none⟩) X.length cap) X.length (flat8 X)) : HoldsK (encX X) 8 w g 0 (List.range X.length).toArray := by
  intro t ht
  have ht' : t < X.length * 8 := by simpa using ht
  rw [flatX_get X t ht', Nat.zero_add, h.cellAt t ht', List.getElem?_eq_getElem (by rw [flat8_length]; exact ht')]
  exact ⟨rfl, h.frozenAt t⟩
theorem rvRow_holds {w : World} {g : Nat} {X : List RV} {d : Array Nat} (h : HoldsK (encX X) 8 w g 0 d) : RvRow w (some ⟨g, 0, none⟩) (d.toList.map fun i => X.getD i rv0) := by
  intro i hi
  have hi' : i < d.size := by simpa using hi
  refine ⟨g, 0, rfl, fun k v hk => ?_⟩
  have hk8 : k < 8 := (List.getElem?_eq_some_iff.1 hk).1
  have a := (h.cell hi' hk8).1
  rw [Nat.zero_add] at a ⊢
  rw [a, getElem!_pos d i hi']
  simp only [List.getElem_map, Array.getElem_toList] at hk
  unfold encX
  rw [List.getElem?_eq_some_iff] at hk
  obtain ⟨h1, h2⟩ := hk
  rw [getElem!_pos _ k h1, h2]
theorem sortedX {X : List RV} {d : Array Nat} {n : Nat} (hn : d.size = n) (h : SortedIn (ltOf (cfX X)) 0 n d) : SortedK keyV (d.toList.map fun i => X.getD i rv0) := by
  unfold SortedK
  rw [List.pairwise_iff_getElem]
  intro i j hi hj hij
  have hi' : i < d.size := by simpa using hi
  have hj' : j < d.size := by simpa using hj
  have := h i j (Nat.zero_le _) hij (by omega)
  rw [cfX_lt, getElem!_pos d i hi', getElem!_pos d j hj'] at this
  simpa [keyV] using this
theorem permX {X : List RV} {d : Array Nat} (h : PermIn 0 X.length (List.range X.length).toArray d) : d.toList.Perm (List.range X.length) := by
  have hs : d.size = X.length := by have := h.1; simpa using this
  have h2 := h.2.2
  rw [Array.extract_eq_self_of_le (by omega), Array.extract_eq_self_of_le (by simp)] at h2
  simpa using h2

/-- a row's k-th route, stored in memory. -/
theorem own_set8 {w : World} {B N n : Nat} {Y Z : List RV} {z0 : RV} (h : w.ownsRow B 31 8 (.slice (some ⟨N, 0, none⟩) n n) n (flat8 (Y ++ z0 :: Z))) (k : Nat) (hk : Y.length = k) (z : RV) :
    (((((((((w.setCell ⟨N, k * 8, none⟩ (.int .i64 z.r.dst.1)).setCell ⟨N, k * 8 + 1, none⟩ (.int .i64 z.r.dst.2)).setCell ⟨N, k * 8 + 2, none⟩ (.slice z.p z.r.att.path.length z.cp)).setCell ⟨N, k * 8 + 3, none⟩ (.int .i64 z.r.att.pref)).setCell ⟨N, k * 8 + 4, none⟩ (.int .i64 z.r.att.med)).setCell ⟨N, k * 8 + 5, none⟩ (.int .i64 z.r.att.org)).setCell ⟨N, k * 8 + 6, none⟩ (.slice z.q z.r.att.tags.length z.cq)).setCell ⟨N, k * 8 + 7, none⟩ (.int .i64 z.r.frm))).ownsRow B 31 8 (.slice (some ⟨N, 0, none⟩) n n) n (flat8 (Y ++ z :: Z)) ∧ (∀ b, b ≠ N → (((((((((w.setCell ⟨N, k * 8, none⟩ (.int .i64 z.r.dst.1)).setCell ⟨N, k * 8 + 1, none⟩ (.int .i64 z.r.dst.2)).setCell ⟨N, k * 8 + 2, none⟩ (.slice z.p z.r.att.path.length z.cp)).setCell ⟨N, k * 8 + 3, none⟩ (.int .i64 z.r.att.pref)).setCell ⟨N, k * 8 + 4, none⟩ (.int .i64 z.r.att.med)).setCell ⟨N, k * 8 + 5, none⟩ (.int .i64 z.r.att.org)).setCell ⟨N, k * 8 + 6, none⟩ (.slice z.q z.r.att.tags.length z.cq)).setCell ⟨N, k * 8 + 7, none⟩ (.int .i64 z.r.frm))).heap[b]? = w.heap[b]?) ∧ (((((((((w.setCell ⟨N, k * 8, none⟩ (.int .i64 z.r.dst.1)).setCell ⟨N, k * 8 + 1, none⟩ (.int .i64 z.r.dst.2)).setCell ⟨N, k * 8 + 2, none⟩ (.slice z.p z.r.att.path.length z.cp)).setCell ⟨N, k * 8 + 3, none⟩ (.int .i64 z.r.att.pref)).setCell ⟨N, k * 8 + 4, none⟩ (.int .i64 z.r.att.med)).setCell ⟨N, k * 8 + 5, none⟩ (.int .i64 z.r.att.org)).setCell ⟨N, k * 8 + 6, none⟩ (.slice z.q z.r.att.tags.length z.cq)).setCell ⟨N, k * 8 + 7, none⟩ (.int .i64 z.r.frm))).heap.size = w.heap.size ∧ (∀ D, D ≤ N → Below D w (((((((((w.setCell ⟨N, k * 8, none⟩ (.int .i64 z.r.dst.1)).setCell ⟨N, k * 8 + 1, none⟩ (.int .i64 z.r.dst.2)).setCell ⟨N, k * 8 + 2, none⟩ (.slice z.p z.r.att.path.length z.cp)).setCell ⟨N, k * 8 + 3, none⟩ (.int .i64 z.r.att.pref)).setCell ⟨N, k * 8 + 4, none⟩ (.int .i64 z.r.att.med)).setCell ⟨N, k * 8 + 5, none⟩ (.int .i64 z.r.att.org)).setCell ⟨N, k * 8 + 6, none⟩ (.slice z.q z.r.att.tags.length z.cq)).setCell ⟨N, k * 8 + 7, none⟩ (.int .i64 z.r.frm)))) := by
  subst hk
  have h0 := (h.stored (Y.length * 8) (.int .i64 z.r.dst.1)).1
  have h1 := (h0.stored (Y.length * 8 + 1) (.int .i64 z.r.dst.2)).1
  have h2 := (h1.stored (Y.length * 8 + 2) (.slice z.p z.r.att.path.length z.cp)).1
  have h3 := (h2.stored (Y.length * 8 + 3) (.int .i64 z.r.att.pref)).1
  have h4 := (h3.stored (Y.length * 8 + 4) (.int .i64 z.r.att.med)).1
  have h5 := (h4.stored (Y.length * 8 + 5) (.int .i64 z.r.att.org)).1
  have h6 := (h5.stored (Y.length * 8 + 6) (.slice z.q z.r.att.tags.length z.cq)).1
  have h7 := (h6.stored (Y.length * 8 + 7) (.int .i64 z.r.frm)).1
  rw [flat8_set] at h7
  refine ⟨h7, fun b hb => ?_, by simp, fun D hD => ?_⟩
  · rw [Below.heap_setCell _ _ _ _ hb, Below.heap_setCell _ _ _ _ hb, Below.heap_setCell _ _ _ _ hb, Below.heap_setCell _ _ _ _ hb, Below.heap_setCell _ _ _ _ hb, Below.heap_setCell _ _ _ _ hb, Below.heap_setCell _ _ _ _ hb, Below.heap_setCell _ _ _ _ hb]
  · exact ((((((((Go.RowKit.Below.refl D w).setCell (p := ⟨N, _, none⟩) hD _).setCell (p := ⟨N, _, none⟩) hD _).setCell (p := ⟨N, _, none⟩) hD _).setCell (p := ⟨N, _, none⟩) hD _).setCell (p := ⟨N, _, none⟩) hD _).setCell (p := ⟨N, _, none⟩) hD _).setCell (p := ⟨N, _, none⟩) hD _).setCell (p := ⟨N, _, none⟩) hD _
theorem own_zero8 {w : World} {B N n : Nat} {Y Z : List RV} (h : w.ownsRow B 31 8 (.slice (some ⟨N, 0, none⟩) n n) n (flat8 (Y ++ rv0 :: Z))) (k : Nat) (hk : Y.length = k) (j : Nat) (v : Value) (hv : (enc8 rv0)[j]? = some v) : w.cell? ⟨N, k * 8 + j, none⟩ = some v ∧ w.frozen? ⟨N, k * 8 + j, none⟩ = false := by
  subst hk
  have hj : j < 8 := (List.getElem?_eq_some_iff.1 hv).1
  have f := flat8_get (Y ++ rv0 :: Z) Y.length (by simp) j hj
  rw [List.getElem_append_right (Nat.le_refl _)] at f
  simp only [Nat.sub_self, List.getElem_cons_zero] at f
  rw [hv] at f
  have := h.cells (g := N) rfl (Y.length * 8 + j) v f
  rw [Addr.add_lit, Nat.zero_add] at this
  exact ⟨this, h.frozenAt _⟩
set_option linter.unusedVariables false in
set_option linter.unusedSimpArgs false in
set_option maxRecDepth 100000 in
set_option maxHeartbeats 16000000 in
theorem sort_any (X : List RV) (p : Option Addr) (cap : Nat) (w : World) (hc : RvRow w p X) (hr : ∀ x ∈ X, RvOk w x) (hl : X.length ≤ 30) :
    Calls Try.prog 9 #[.slice p X.length cap] w fun e w' => (∃ q c Z, e = .returned (.slice q X.length c) ∧ RvRow w' q Z ∧ (∀ z ∈ Z, RvIn w' z) ∧ (Z.map (·.r)).Perm (X.map (·.r)) ∧ SortedK keyV Z) ∧ Below w.heap.size w w' := by
  have eg : ∀ args w, (callFunc 17 args).run Try.prog w = .ok (.enter 17 args) w := enters_of Try.func17 (by kernel_rfl) rfl
  obtain ⟨N, hN⟩ : ∃ N, Hid (w.heap.size = N) := ⟨_, show _ = _ from rfl⟩
  obtain ⟨n, hn⟩ : ∃ n : Nat, X.length = n := ⟨_, rfl⟩
  obtain ⟨HL⟩ : Nonempty (Hid (X.length = n)) := ⟨hn⟩
  rw [hn] at hl ⊢
  obtain ⟨HX⟩ : Nonempty (Hid (∀ w', Below w.heap.size w w' → RvRow w' p X ∧ ∀ x ∈ X, RvOk w' x)) := ⟨fun w' hb => ⟨hc.below hb, fun x hx => (hr x hx).below hb⟩⟩
  obtain ⟨W, hW⟩ : ∃ W, Hid (w.alloc (.cells (madeCells ro0V.cells (n * 8)) 31) = W) := ⟨_, show _ = _ from rfl⟩
  obtain ⟨HS⟩ : Nonempty (Hid (Below w.heap.size w W ∧ W.ownsRow w.heap.size 31 8 (.slice (some ⟨w.heap.size, 0, none⟩) n n) n (flat8 (([] : List RV) ++ List.replicate n rv0)))) := ⟨by
    rw [← hW.out]
    refine ⟨below_alloc _ _, ?_⟩
    rw [List.nil_append, ← made8]
    exact World.ownsRow_lit w _ n (Nat.le_refl _) (by unfold maxLen; omega) (size_madeCells _ _)⟩
  have hmk := makeRoutes n w (by omega)
  rw [show w.alloc (.cells (madeCells ro0V.cells (n * 8)) 31) = W from hW.out] at hmk
  rw [show w.heap.size = N from hN.out] at hmk
  clear hc hr hn hW
  go_enter Try.func9, Try.ntmps9
  go_wp2_with fail
  clear hmk
  go_loopw [11] (fun vi wr => ∃ (k : Nat) (Y : List RV), vi = .int .i64 k ∧ k ≤ n ∧ Hid (Below w.heap.size w wr ∧ wr.ownsRow w.heap.size 31 8 (.slice (some ⟨w.heap.size, 0, none⟩) n n) n (flat8 (Y ++ List.replicate (n - k) rv0))) ∧ Hid (Y.length = k ∧ Y.map (·.r) = (X.take k).map (·.r) ∧ ∀ y ∈ Y, RvIn wr y ∧ (∀ b o, y.p = some ⟨b, o, none⟩ → w.heap.size < b ∧ b < wr.heap.size) ∧ (∀ b o, y.q = some ⟨b, o, none⟩ → w.heap.size < b ∧ b < wr.heap.size))) (fun vi _ => n - (intOf vi).toNat)
  case atStart => exact ⟨0, [], rfl, Nat.zero_le _, HS.out, rfl, rfl, fun y hy => by simp at hy⟩
  case round =>
    clear HS
    obtain ⟨k, Y, rfl, hk, HW, HY⟩ := hrel
    by_cases hlt : k < n
    · have hltz : (k : Int) < (n : Int) := by omega
      have hkX : k < X.length := by rw [HL.out]; exact hlt
      obtain ⟨x, hx⟩ : ∃ x, Hid (X[k] = x) := ⟨_, show _ = _ from rfl⟩
      obtain ⟨b, o, rfl, hcell⟩ := (HX.out wr HW.out.1).1 k hkX
      rw [show X[k] = x from hx.out] at hcell
      have hok := (HX.out wr HW.out.1).2 _ (List.getElem_mem hkX)
      rw [show X[k] = x from hx.out] at hok
      obtain ⟨Z0, hZ0⟩ : ∃ Z0, Hid (List.replicate (n - k) rv0 = rv0 :: Z0 ∧ Z0 = List.replicate (n - (k + 1)) rv0) := ⟨List.replicate (n - (k + 1)) rv0, by
        show _ ∧ _
        rw [show n - k = (n - (k + 1)) + 1 by omega, List.replicate_succ]
        exact ⟨rfl, rfl⟩⟩
      obtain ⟨HTX⟩ : Nonempty (Hid ((X.take (k + 1)).map (·.r) = (X.take k).map (·.r) ++ [x.r])) := ⟨by
        show _ = _
        rw [List.take_succ_eq_append_getElem hkX, show X[k] = x from hx.out, List.map_append]
        rfl⟩
      obtain ⟨M, hM⟩ : ∃ M, Hid (wr.heap.size = M) := ⟨_, show _ = _ from rfl⟩
      obtain ⟨W5, hW5⟩ : ∃ W, Hid (wr.alloc (.cells #[.int .i64 x.r.dst.1, .int .i64 x.r.dst.2, .slice x.p x.r.att.path.length x.cp, .int .i64 x.r.att.pref, .int .i64 x.r.att.med, .int .i64 x.r.att.org, .slice x.q x.r.att.tags.length x.cq, .int .i64 x.r.frm] 31) = W) := ⟨_, show _ = _ from rfl⟩
      obtain ⟨HW5⟩ : Nonempty (Hid (Below wr.heap.size wr W5 ∧ W5.heap[M]? = some (.cells #[.int .i64 x.r.dst.1, .int .i64 x.r.dst.2, .slice x.p x.r.att.path.length x.cp, .int .i64 x.r.att.pref, .int .i64 x.r.att.med, .int .i64 x.r.att.org, .slice x.q x.r.att.tags.length x.cq, .int .i64 x.r.frm] 31 (0, 0)) ∧ W5.heap.size = M + 1)) := ⟨by
        rw [← hW5.out, ← hM.out]
        exact ⟨below_alloc _ _, Go.heap_alloc_new wr _, by simp⟩⟩
      have hcon := copied_any x W5 (hok.below HW5.out.1)
      unfold roV enc8 at hcon
      obtain ⟨k0, k1, k2, k3, k4, k5, k6, k7⟩ := rvCell8 hcell
      obtain ⟨x0, x1, x2, x3, x4, x5, x6, x7, -⟩ := heap_cells8 HW5.out.2.1
      clear hcell hok hx
      go_upto_region 5 with fail
      rw [show wr.alloc (.cells #[.int .i64 x.r.dst.1, .int .i64 x.r.dst.2, .slice x.p x.r.att.path.length x.cp, .int .i64 x.r.att.pref, .int .i64 x.r.att.med, .int .i64 x.r.att.org, .slice x.q x.r.att.tags.length x.cq, .int .i64 x.r.frm] 31) = W5 from hW5.out, show wr.heap.size = M from hM.out]
      clear k0 k1 k2 k3 k4 k5 k6 k7 hW5
      go_wp2_with fail
      refine hcon.mono ?_
      rintro e w2 ⟨⟨z, rfl, hz⟩, hb2⟩
      obtain ⟨H2⟩ : Nonempty (Hid (Below wr.heap.size wr w2 ∧ w2.ownsRow w.heap.size 31 8 (.slice (some ⟨N, 0, none⟩) n n) n (flat8 (Y ++ rv0 :: Z0)))) := ⟨by
        have hb := HW5.out.1.trans (hb2.mono HW5.out.1.size)
        refine ⟨hb, ?_⟩
        have := own_below HW.out.2 hb
        rwa [hZ0.out.1, show (⟨w.heap.size, 0, none⟩ : Addr) = ⟨N, 0, none⟩ by rw [show w.heap.size = N from hN.out]] at this⟩
      obtain ⟨HZ⟩ : Nonempty (Hid (RvNew w2 x z W5.heap.size ∧ w.heap.size < W5.heap.size)) := ⟨⟨hz, by have := HW.out.1.size; have := HW5.out.2.2; have := hM.out; omega⟩⟩
      have hz8 := own_zero8 H2.out.2 k HY.out.1
      have a0 := hz8 0 _ rfl
      have a1 := hz8 1 _ rfl
      have a2 := hz8 2 _ rfl
      have a3 := hz8 3 _ rfl
      have a4 := hz8 4 _ rfl
      have a5 := hz8 5 _ rfl
      have a6 := hz8 6 _ rfl
      have a7 := hz8 7 _ rfl
      rw [Nat.add_zero] at a0
      obtain ⟨a0, b0⟩ := a0
      obtain ⟨a1, b1⟩ := a1
      obtain ⟨a2, b2⟩ := a2
      obtain ⟨a3, b3⟩ := a3
      obtain ⟨a4, b4⟩ := a4
      obtain ⟨a5, b5⟩ := a5
      obtain ⟨a6, b6⟩ := a6
      obtain ⟨a7, b7⟩ := a7
      have hset := own_set8 H2.out.2 k HY.out.1 z
      obtain ⟨HE⟩ : Nonempty (Hid _) := ⟨hset⟩
      clear hz hb2 hz8 hset hcon x0 x1 x2 x3 x4 x5 x6 x7
      go_wp2_with fail
      go_roundw
      case rel =>
        have e1 := HE.out.2.1
        have e2 := HE.out.2.2.1
        have hwN : w.heap.size = N := hN.out
        have hs2 := H2.out.1.size
        refine ⟨k + 1, Y ++ [z], by go_num, by omega, ⟨(HW.out.1.trans (H2.out.1.mono HW.out.1.size)).trans (HE.out.2.2.2 _ (by rw [hwN]; exact Nat.le_refl _)), ?_⟩, ⟨by rw [List.length_append, HY.out.1]; rfl, by rw [List.map_append, HY.out.2.1, HTX.out]; rw [List.map_singleton, HZ.out.1.1], fun y hy => ?_⟩⟩
        · rw [List.append_assoc, List.singleton_append, ← hZ0.out.2, show (⟨w.heap.size, 0, none⟩ : Addr) = ⟨N, 0, none⟩ by rw [hwN]]
          exact HE.out.1
        · rcases List.mem_append.1 hy with hy | hy
          · obtain ⟨q1, q2, q3⟩ := HY.out.2.2 y hy
            refine ⟨⟨ints_kept (q1.1.below H2.out.1) fun b' o' e => ?_, ints_kept (q1.2.below H2.out.1) fun b' o' e => ?_⟩, fun b' o' e => ?_, fun b' o' e => ?_⟩
            · have := q2 b' o' e; exact e1 b' (by omega)
            · have := q3 b' o' e; exact e1 b' (by omega)
            · have := q2 b' o' e; rw [e2]; omega
            · have := q3 b' o' e; rw [e2]; omega
          · rw [List.mem_singleton] at hy
            subst hy
            have hlt2 := HZ.out.2
            refine ⟨⟨ints_kept HZ.out.1.2.1.1 fun b' o' e => ?_, ints_kept HZ.out.1.2.1.2 fun b' o' e => ?_⟩, fun b' o' e => ?_, fun b' o' e => ?_⟩
            · have := HZ.out.1.2.2.1 b' o' e; exact e1 b' (by omega)
            · have := HZ.out.1.2.2.2 b' o' e; exact e1 b' (by omega)
            · have := HZ.out.1.2.2.1 b' o' e; rw [e2]; omega
            · have := HZ.out.1.2.2.2 b' o' e; rw [e2]; omega
      case measure => simp [intOf]; omega
    · have hltz : ¬ (k : Int) < (n : Int) := by omega
      obtain rfl : k = n := by omega
      have hY1 := HY.out.1
      have hown : wr.ownsRow w.heap.size 31 8 (.slice (some ⟨N, 0, none⟩) Y.length k) Y.length (flat8 Y) := by
        have := HW.out.2
        rw [Nat.sub_self, List.replicate_zero, List.append_nil, show (⟨w.heap.size, 0, none⟩ : Addr) = ⟨N, 0, none⟩ by rw [show w.heap.size = N from hN.out]] at this
        rw [hY1]
        exact this
      have hmod : ∀ y ∈ Y, y.r.att.path.length ≤ 1000000 ∧ y.r.att.tags.length ≤ 1000000 := fun y hy => by
        have h1 : y.r ∈ (X.take k).map (·.r) := by rw [← HY.out.2.1]; exact List.mem_map_of_mem hy
        obtain ⟨x, hx, he⟩ := List.mem_map.1 h1
        rw [← he]
        exact ((HX.out wr HW.out.1).2 x (List.mem_of_mem_take hx)).2
      have hN1 : N < wr.heap.size := (hown.lt N rfl).2
      have R : RowK (encX Y) 8 wr N 0 (List.range Y.length).toArray := ⟨fun _ => rfl, fun _ => enc8_one _, holdsX hown, hN1⟩
      have hkeep : ∀ (W' : World), wr.grownBy W' (some N) → ∀ i, RvOk W' (Y.getD i rv0) := fun W' hg i => by
        by_cases hi : i < Y.length
        · have hm := List.getElem_mem hi
          have e : Y.getD i rv0 = Y[i] := by simp [List.getD, hi]
          rw [e]
          obtain ⟨q1, q2, q3⟩ := HY.out.2.2 Y[i] hm
          have hwN : w.heap.size = N := hN.out
          exact ⟨⟨ints_kept q1.1 fun b' o' e => by have := q2 b' o' e; exact hg.block b' this.2 (by simp; omega), ints_kept q1.2 fun b' o' e => by have := q3 b' o' e; exact hg.block b' this.2 (by simp; omega)⟩, hmod _ hm⟩
        · have e : Y.getD i rv0 = rv0 := by simp [List.getD, hi]
          rw [e]
          exact ⟨⟨ints_nil _ _, ints_nil _ _⟩, by decide, by decide⟩
      have hcmp : CmpLays Try.prog 17 #[] (encX Y) 8 (cfX Y) N 0 (List.range Y.length).toArray.size wr := fun m os dk _ i j =>
        order_rv (Y.getD i rv0) (Y.getD j rv0) _ (hkeep _ (grownRow _) i) (hkeep _ (grownRow _) j)
      have hst := stable_k 8 (fun w => Try.isAgg31 w) (fun w => Try.sizeOf31 w) (encX Y) (cfX Y) 17 #[] N 0 k (List.range Y.length).toArray wr eg hcmp (cfX_swo Y) R (by simp; omega)
      obtain ⟨HST⟩ : Nonempty (Hid (Calls Try.prog 19 #[.slice (some ⟨N, 0, none⟩) k k, .func (.func 17) #[] #[]] wr fun e w' => e = .returned (.tuple #[]) ∧ (∃ Z, RvRow w' (some ⟨N, 0, none⟩) Z ∧ (∀ z ∈ Z, RvIn w' z) ∧ (Z.map (·.r)).Perm (X.map (·.r)) ∧ SortedK keyV Z) ∧ Below w.heap.size w w')) := ⟨by
        have e : (List.range Y.length).toArray.size = k := by simp [hY1]
        rw [e] at hst
        refine hst.mono ?_
        rintro ee w' ⟨rfl, d', hS, hsort, hperm⟩
        have hp := permX (X := Y) (by rw [← hY1] at hperm; exact hperm)
        have hs : d'.size = k := by have := hperm.1; rw [this]; exact e
        have hg := grownSW hS
        refine ⟨rfl, ⟨d'.toList.map fun i => Y.getD i rv0, rvRow_holds (hS.holds R.hblk R.hH (by rw [hs, e])), fun z hz => ?_, ?_, sortedX hs hsort⟩, HW.out.1.grown hg HW.out.1.size (fun j hj => by cases hj; rw [show w.heap.size = N from hN.out]; exact Nat.le_refl _)⟩
        · obtain ⟨i, -, rfl⟩ := List.mem_map.1 hz
          exact (hkeep w' hg i).1
        · refine (sorted_map Y d'.toList hp).trans ?_
          rw [HY.out.2.1, List.take_of_length_le (by rw [HL.out]; exact Nat.le_refl _)]⟩
      clear hst hcmp hkeep R hown hmod hN1 HW HY
      go_wp2_with fail
      refine HST.out.mono ?_
      rintro ee w' ⟨rfl, ⟨Z, z1, z2, z3, z4⟩, hb⟩
      go_wp2_with fail
      go_ret
      exact ⟨⟨_, _, Z, rfl, z1, z2, z3, z4⟩, hb⟩
end Go.Proofs.Ytkcacdlgmapjjaa
