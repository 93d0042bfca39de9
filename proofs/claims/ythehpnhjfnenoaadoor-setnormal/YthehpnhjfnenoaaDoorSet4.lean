/-
  Package set's spansOf: the comparing of two spans; slices.SortFunc at a row of spans of the call's own.
-/
import Derived.Test.YthehpnhjfnenoaaDoorSet3
import Derived.Sort.OwnSortedInts
namespace Go.Proofs.YthehpnhjfnenoaaDoor
open Go.RowKit Go.Sort Go.Shelf Go.Lib

set_option maxHeartbeats 1000000 in
theorem cmpSpan (x y : Int × Int) (W : World) : Calls Tryd.prog 79 #[.agg #[.int .i64 x.1, .int .i64 x.2], .agg #[.int .i64 y.1, .int .i64 y.2]] W fun e w' => e = .returned (.int .i64 (Lib.compareInt x.1 y.1)) ∧ ∃ q os', w' = grow (W.drewN q) os' := by
  have hcon := fun W' => Tryd.cmp_Compare_int x.1 y.1 W'
  generalize Lib.compareInt x.1 y.1 = r at hcon ⊢
  go_enter Tryd.func79, Tryd.ntmps79
  go_wp2_with (go_at_call 80; refine (hcon _).mono ?_; rintro e w' ⟨rfl, rfl⟩)
  go_ret
  exact ⟨rfl, 0, _, by rw [alloc_eq_grow, alloc_eq_grow, grow_grow]; rfl⟩
theorem ltSpan (x y : Int × Int) : ltOf (fun x y : Int × Int => Lib.compareInt x.1 y.1) x y = decide (x.1 < y.1) := by
  unfold ltOf Lib.compareInt
  by_cases h1 : x.1 < y.1
  · simp [h1]
  · by_cases h2 : y.1 < x.1 <;> simp [h1, h2]
theorem swoSpan : SWO (ltOf fun x y : Int × Int => Lib.compareInt x.1 y.1) where
  irrefl x := by rw [ltSpan]; simp
  trans x y z h1 h2 := by rw [ltSpan] at *; simp at *; omega
  ntrans x y z h1 h2 := by rw [ltSpan] at *; simp at *; omega
theorem aggSpan (w : World) : (isAgg 93).run Tryd.prog w = .ok true w := Tryd.isAgg93 w
theorem sizeSpan (w : World) : (Go.sizeOf 93).run Tryd.prog w = .ok 2 w := Tryd.sizeOf93 w

theorem flatK_get (L : List (Int × Int)) (t : Nat) (h : t < L.length * 2) : (flatK encP 2 L.toArray)[t]! = (flat2 L)[t]'(by rw [flat2_length]; exact h) := by
  rw [get_flatK _ _ _ _ (by simpa using h)]
  have hq : t / 2 < L.length := by omega
  have f := flat2_get L (t / 2) hq
  have e1 : L.toArray[t / 2]! = L[t / 2] := by rw [getElem!_pos _ _ (by simpa using hq)]; simp
  rw [e1]
  rcases Nat.mod_two_eq_zero_or_one t with h0 | h0
  · have := f.1
    rw [show t / 2 * 2 = t by omega, List.getElem?_eq_getElem (by rw [flat2_length]; exact h)] at this
    rw [h0, Option.some.inj this]
    rfl
  · have := f.2
    rw [show t / 2 * 2 + 1 = t by omega, List.getElem?_eq_getElem (by rw [flat2_length]; exact h)] at this
    rw [h0, Option.some.inj this]
    rfl
theorem holds_own {w : World} {B g cap : Nat} {e : TypeId} {L : List (Int × Int)} (h : w.ownsRow B e 2 (.slice (some ⟨g, 0, none⟩) L.length cap) L.length (flat2 L)) : HoldsK encP 2 w g 0 L.toArray := by
  intro t ht
  have ht' : t < L.length * 2 := by simpa using ht
  rw [flatK_get L t ht', Nat.zero_add, h.cellAt t ht', List.getElem?_eq_getElem (by rw [flat2_length]; exact ht')]
  exact ⟨rfl, h.frozenAt t⟩
theorem pairs_of_holds {w : World} {g : Nat} {d : Array (Int × Int)} (h : HoldsK encP 2 w g 0 d) : Pairs w (some ⟨g, 0, none⟩) d.toList := by
  intro i hi
  have hi' : i < d.size := by simpa using hi
  have a := (h.cell hi' (show 0 < 2 by decide)).1
  have b := (h.cell hi' (show 1 < 2 by decide)).1
  refine ⟨g, 0, rfl, ?_, ?_⟩
  · rw [Nat.add_zero] at a; rw [a, getElem!_pos d i hi']; rfl
  · rw [b, getElem!_pos d i hi']; rfl
theorem grown_put {w : World} {g n : Nat} {os : Array Obj} (F : Array Value) : w.grownBy (grow (putRow id (Sort.ahead w n) g 0 F) os) (some g) := by
  refine ⟨rfl, rfl, rfl, by simp, fun k hk hne => ?_⟩
  rw [heap_grow_old _ _ (by simpa using hk)]
  have : g ≠ k := fun e => hne (by rw [e])
  simp [putRow, mapBlock, Sort.ahead, Array.getElem?_modify, this]
/-- sorted by where they begin, none empty: rising. -/
theorem rise_of (d : List (Int × Int)) (hne : ∀ s ∈ d, s.1 < s.2) (hs : ∀ i j (hi : i < d.length) (hj : j < d.length), i < j → ¬ d[j].1 < d[i].1) : Rise d := by
  induction d with
  | nil => trivial
  | cons s r ih =>
    refine ⟨hne s (by simp), ?_, ih (fun t ht => hne t (by simp [ht])) ?_⟩
    · intro t ht
      obtain ⟨j, hj, rfl⟩ := List.getElem_of_mem ht
      have := hs 0 (j + 1) (by simp) (by simpa using hj) (by omega)
      simp at this
      omega
    · intro i j hi hj hij
      have := hs (i + 1) (j + 1) (by simpa using hi) (by simpa using hj) (by omega)
      simpa using this

/-- slices.SortFunc at an own row of spans: then the row holds them, sorted. -/
theorem sort_own (L : List (Int × Int)) (B g cap : Nat) (w : World) (hown : w.ownsRow B 93 2 (.slice (some ⟨g, 0, none⟩) L.length cap) L.length (flat2 L)) (hB : B ≤ g) (hg : g < w.heap.size) (hl : L.length ≤ 1099511627776) (hne : ∀ s ∈ L, s.1 < s.2) :
    Calls Tryd.prog 78 #[.slice (some ⟨g, 0, none⟩) L.length cap, .func (.func 79) #[] #[]] w fun e w' => e = .returned (.tuple #[]) ∧ ∃ L' : List (Int × Int), L'.Perm L ∧ Rise L' ∧ L'.length = L.length ∧ Pairs w' (some ⟨g, 0, none⟩) L' ∧ Below B w w' := by
  have eg : ∀ args w, (callFunc 79 args).run Tryd.prog w = .ok (.enter 79 args) w := enters_of Tryd.func79 (by kernel_rfl) rfl
  have hH := holds_own hown
  have hcon := AnyQ.slices_SortFunc Tryd.sortSpan 2 aggSpan sizeSpan encP (fun _ => rfl) (fun x v hv => by simp [encP] at hv; rcases hv with rfl | rfl <;> rfl) (fun x y => Lib.compareInt x.1 y.1) swoSpan 79 #[] g 0 cap L.toArray w eg (fun _ _ _ _ x y => cmpSpan x y _) hH hg (by simp; omega)
  change Calls Tryd.prog 78 _ _ _ at hcon
  rw [List.size_toArray] at hcon
  refine hcon.mono ?_
  rintro e w' ⟨he, d', n, os, hp, hsrt, hw⟩
  have hsz : d'.size = L.length := by have := hp.1; simpa using this
  have hperm : d'.toList.Perm L := by
    have h := hp.2.2
    rw [Array.extract_eq_self_of_le (by omega), Array.extract_eq_self_of_le (by simp)] at h
    simpa using h
  refine ⟨he, d'.toList, hperm, rise_of _ (fun s hs => hne s (hperm.mem_iff.1 hs)) ?_, by simpa using hsz, ?_, ?_⟩
  · intro i j hi hj hij
    have hi' : i < d'.size := by simpa using hi
    have hj' : j < d'.size := by simpa using hj
    have := hsrt i j (Nat.zero_le _) hij (by omega)
    rw [ltSpan, getElem!_pos d' i hi', getElem!_pos d' j hj'] at this
    simpa using this
  · refine pairs_of_holds ?_
    rw [hw]
    exact holdsK_grow _ _ _ _ _ _ _ (by rw [size_putRowK]; exact hg) (holdsK_putRowK _ _ _ _ _ _ _ (holdsK_ahead _ _ _ _ _ _ _ hH) (by simpa using hsz))
  · rw [hw]
    exact (Below.refl B w).grown (grown_put _) (by omega) (fun k hk => by cases hk; exact hB)
end Go.Proofs.YthehpnhjfnenoaaDoor
