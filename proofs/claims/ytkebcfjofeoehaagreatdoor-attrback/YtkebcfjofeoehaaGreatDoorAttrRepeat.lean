/-
  slices.Repeat of one whole number: what it returns.
-/
import Derived.Test.YtkebcfjofeoehaaGreatDoorAttrSame
import Derived.Test.YtkebcfjofeoehaaGreatDoorKeptBase
import Derived.Test.YtkebcfjofeoehaaGreatDoorRowCells
import Derived.Laws.MakeOwn
import Derived.Deep.RegionLaw
namespace Go.Proofs.YtkebcfjofeoehaaGreatDoor
open Go.RowKit

/-- a row of which the first k are x. -/
def Rep (w wr : World) (G n k : Nat) (x : Int) : Prop := ∃ cur : Array Value, wr.heap[G]? = some (.cells cur 3 (0, 0)) ∧ cur.size = n ∧ (∀ j, j < k → cur[j]? = some (intV x)) ∧ Below G w wr
theorem Rep.copy {w wr : World} {G n k : Nat} {x : Int} (h : Rep w wr G n k x) (m : Nat) (hm : k + m ≤ n) : Rep w (wr.setCells G k (List.replicate m (intV x))) G n (k + m) x := by
  obtain ⟨cur, a, b, c, d⟩ := h
  obtain ⟨cur', a', b', c', d'⟩ := heap_setCells G _ (List.replicate m (intV x)) k wr cur a
  refine ⟨cur', a', by rw [b', b], fun j hj => ?_, below_setCells (Nat.le_refl _) _ _ d⟩
  by_cases hjk : j < k
  · rw [d' j (Or.inl hjk)]; exact c j hjk
  · obtain ⟨i, rfl⟩ : ∃ i, j = k + i := ⟨j - k, by omega⟩
    rw [c' i (by simp; omega) (by omega)]; simp
theorem Rep.some {w wr : World} {G n k : Nat} {x : Int} (h : Rep w wr G n k x) (j : Nat) (hj : j < n) : (wr.cell? ⟨G, j, none⟩).isSome = true ∧ wr.frozen? ⟨G, j, none⟩ = false := by
  obtain ⟨cur, a, b, c, d⟩ := h
  constructor
  · simp [World.cell?, a, b, hj]
  · simp [World.frozen?, a]
theorem Rep.at {w wr : World} {G n k : Nat} {x : Int} (h : Rep w wr G n k x) (j : Nat) (hj : j < k) : wr.cell? ⟨G, j, none⟩ = Option.some (intV x) := by
  obtain ⟨cur, a, b, c, d⟩ := h
  simp [World.cell?, a, c j hj]
theorem rep_mem (n : Nat) (x : Int) : ∀ u ∈ List.replicate n (intV x), u.oneCell' = true := by
  intro u hu
  rw [List.eq_of_mem_replicate hu]; rfl
theorem Rep.drew {w wr : World} {G n k : Nat} {x : Int} (h : Rep w wr G n k x) : Rep w wr.drew G n k x := by
  obtain ⟨cur, a, b, c, d⟩ := h
  exact ⟨cur, a, b, c, d.drew⟩
theorem sizeInt : (Tryz.prog.info? 3).map (·.size) = some 1 := by kernel_rfl
theorem rep_copy0 {w wr : World} {G n : Nat} {x : Int} (h : Rep w wr G n 0 x) (b : Nat) (hx : wr.cell? ⟨b, 0, none⟩ = some (intV x)) (dc : Nat) (ty : TypeId) :
    (Builtin.copy_ #[22, 22] ty #[.slice (some ⟨G, 0, none⟩) n dc, .slice (some ⟨b, 0, none⟩) 1 1]).run Tryz.prog wr = .ok (goInt ((min 1 n : Nat) : Int)) (wr.setCells G 0 (List.replicate (min 1 n) (intV x))) := by
  have := run_copy_cells (P := Tryz.prog) wr 22 22 ty 3 G 0 n dc ⟨b, 0, none⟩ 1 1 (List.replicate (min 1 n) (intV x)) Tryz.underlying22 sizeInt (by simp) (fun j v hj => by
    have hjl := (List.getElem?_eq_some_iff.1 hj).1
    simp at hjl
    have : j = 0 := by omega
    subst this
    obtain ⟨h', e⟩ := List.getElem?_eq_some_iff.1 hj
    rw [List.getElem_replicate] at e
    subst e
    simpa [Addr.add] using hx) (fun j hj => by rw [Nat.zero_add]; exact (h.some j (by simp at hj; omega)).1) (fun j hj => by rw [Nat.zero_add]; exact (h.some j (by simp at hj; omega)).2) (rep_mem _ _)
  rw [List.length_replicate] at this
  exact this
theorem rep_copy1 {w wr : World} {G n k : Nat} {x : Int} (h : Rep w wr G n k x) (hk : k ≤ n) (dc sc : Nat) (ty : TypeId) :
    (Builtin.copy_ #[22, 22] ty #[.slice (some ⟨G, k, none⟩) (n - k) dc, .slice (some ⟨G, 0, none⟩) k sc]).run Tryz.prog wr = .ok (goInt ((min k (n - k) : Nat) : Int)) (wr.setCells G k (List.replicate (min k (n - k)) (intV x))) := by
  have := run_copy_cells (P := Tryz.prog) wr 22 22 ty 3 G k (n - k) dc ⟨G, 0, none⟩ k sc (List.replicate (min k (n - k)) (intV x)) Tryz.underlying22 sizeInt (by simp) (fun j v hj => by
    have hjl := (List.getElem?_eq_some_iff.1 hj).1
    simp at hjl
    obtain ⟨h', e⟩ := List.getElem?_eq_some_iff.1 hj
    rw [List.getElem_replicate] at e
    subst e
    rw [Addr.add_lit, Nat.zero_add]
    exact h.at j (by omega)) (fun j hj => (h.some (k + j) (by simp at hj; omega)).1) (fun j hj => (h.some (k + j) (by simp at hj; omega)).2) (rep_mem _ _)
  rw [List.length_replicate] at this
  exact this

set_option linter.unusedSimpArgs false in
set_option linter.unusedVariables false in
set_option maxRecDepth 100000 in
set_option maxHeartbeats 4000000 in
theorem repeat_any (x : Int) (n b : Nat) (w : World) (hx : w.cell? ⟨b, 0, none⟩ = some (intV x)) (hn : n ≤ 12) :
    Calls Tryz.prog 39 #[.slice (some ⟨b, 0, none⟩) 1 1, .int .i64 (n : Int)] w fun r w' => (∃ v, r = .returned v ∧ w'.ownsRow w.heap.size 3 1 v n ((List.replicate n x).map intV)) ∧ Below w.heap.size w w' := by
  have hneg : decide ((n : Int) < 0) = false := decide_eq_false (by omega)
  obtain ⟨HM⟩ : Nonempty (Hid (∀ w', Calls Tryz.prog 66 #[.int .u64 1, .int .u64 (n : Int)] w' fun e w'' => e = .returned (.tuple #[.int .u64 0, .int .u64 (n : Int)]) ∧ w'' = w')) := ⟨fun w' => by
    have := Tryz.bits_Mul 1 n (by omega) (by omega) w'
    rw [show 1 * n / 18446744073709551616 = 0 by omega, show 1 * n % 18446744073709551616 = n by omega] at this
    exact this⟩
  obtain ⟨i0, hi, hz0, hz1, hz2⟩ := info_parts infoInt
  have hmk := run_make (P := Tryz.prog) w 22 3 i0 (.int .i64 0) Tryz.underlying22 hi hz0 .i64 .i64 (n : Int) (n : Int) (by omega) (Int.le_refl _) (by rw [hz2]; omega) (by omega)
  obtain ⟨MC, hMC⟩ : ∃ a : Array Value, Hid (madeCells (Value.int .i64 0).cells (n * i0.size) = a) := ⟨_, show _ = _ from rfl⟩
  simp only [Int.toNat_natCast] at hmk
  rw [show madeCells (Value.int .i64 0).cells (n * i0.size) = MC from hMC.out] at hmk
  have hsz : MC.size = n := by rw [← hMC.out, size_madeCells, hz1, Nat.mul_one]
  obtain ⟨G, hG⟩ : ∃ b, Hid (w.heap.size = b) := ⟨_, show _ = _ from rfl⟩
  obtain ⟨W1, hW1⟩ : ∃ W1, Hid (w.alloc (.cells MC 3) = W1) := ⟨_, show _ = _ from rfl⟩
  obtain ⟨HR⟩ : Nonempty (Hid (Rep w W1 G n 0 x ∧ W1.cell? ⟨b, 0, none⟩ = some (intV x))) := ⟨by
    rw [← hW1.out, ← hG.out]
    exact ⟨⟨MC, Go.heap_alloc_new w _, hsz, fun j h => by omega, below_alloc _ _⟩, cell_kept (below_alloc _ _) hx⟩⟩
  rw [show w.alloc (.cells MC 3) = W1 from hW1.out, show w.heap.size = G from hG.out] at hmk
  rw [show w.heap.size = G from hG.out]
  obtain ⟨W2, hW2⟩ : ∃ W2, Hid (W1.setCells G 0 (List.replicate (min 1 n) (intV x)) = W2) := ⟨_, show _ = _ from rfl⟩
  obtain ⟨HR2⟩ : Nonempty (Hid (Rep w W2 G n (min 1 n) x)) := ⟨by
    have := HR.out.1.copy (min 1 n) (by omega)
    rw [Nat.zero_add] at this
    rw [← hW2.out]; exact this⟩
  obtain ⟨HCP⟩ : Nonempty (Hid (∀ ty, (Builtin.copy_ #[22, 22] ty #[.slice (some ⟨G, 0, none⟩) n n, .slice (some ⟨b, 0, none⟩) 1 1]).run Tryz.prog W1 = .ok (goInt ((min 1 n : Nat) : Int)) W2)) := ⟨fun ty => by rw [← hW2.out]; exact rep_copy0 HR.out.1 b HR.out.2 n ty⟩
  clear hsz hi hz0 hz1 hz2 hx HR
  go_enter Tryz.func39, Tryz.ntmps39
  go_wp2_with fail
  refine (HM.out _).mono ?_
  rintro e w1 ⟨rfl, hw1⟩
  replace hw1 := hw1.symm
  subst hw1
  have hcp := HCP.out
  go_wp2_with fail
  clear hcp
  go_loopw [8] (fun s wr => ∃ (k : Nat), s = .int .i64 (k : Int) ∧ k ≤ n ∧ (k = 0 → n = 0) ∧ Hid (Rep w wr G n k x)) (fun s _ => n - (intOf s).toNat)
  case atStart => exact ⟨min 1 n, rfl, by omega, by omega, HR2⟩
  case round =>
    obtain ⟨k, rfl, hk, hk0, HK⟩ := hrel
    by_cases hlt : k < n
    · have q3 : (k : Int) < n := by omega
      obtain ⟨m, hm⟩ : ∃ m, Hid (min k (n - k) = m) := ⟨_, show _ = _ from rfl⟩
      have hm0 : k + m ≤ n ∧ 0 < m := by rw [← hm.out]; omega
      obtain ⟨hm1, hm2⟩ := hm0
      obtain ⟨W3, hW3⟩ : ∃ W3, Hid (wr.drew.setCells G k (List.replicate m (intV x)) = W3) := ⟨_, show _ = _ from rfl⟩
      obtain ⟨HN⟩ : Nonempty (Hid (Rep w W3 G n (k + m) x)) := ⟨by rw [← hW3.out]; exact HK.out.drew.copy m hm1⟩
      have hcp : ∀ ty dc sc, (Builtin.copy_ #[22, 22] ty #[.slice (some ⟨G, k, none⟩) (n - k) dc, .slice (some ⟨G, 0, none⟩) k sc]).run Tryz.prog wr.drew = .ok (goInt ((m : Nat) : Int)) W3 := fun ty dc sc => by
        have := rep_copy1 HK.out.drew hk dc sc ty
        rw [show min k (n - k) = m from hm.out, show wr.drew.setCells G k (List.replicate m (intV x)) = W3 from hW3.out] at this
        exact this
      have hwr : IntKind.i64.wrap ((k : Int) + (m : Int)) = (k : Int) + (m : Int) := wrapi _ (by omega)
      have hnk : ¬ n = k := by omega
      go_wp2_with fail
      refine wp_region_noPanic ?_
      refine wp_region_held_drew (S := (fun _ => True)) (by kernel_rfl) ?_ (fun hHeld => ?_)
      · trivial
      refine wpAnyH_take (i := 0) (v := ?_) rfl (by kernel_rfl) (by kernel_rfl) (by kernel_rfl) (fun _ _ _ h => h) (Or.inl ⟨by rfl, ?_⟩) (by assumption) ?_
      rotate_left
      · (intro w hSw; (try dsimp only at hSw); go_simp; try (with_reducible rfl))
      try simp only [Act.put, List.setIfInBounds_toArray, List.set_cons_zero, List.set_cons_succ, List.getElem_toArray, List.getElem_cons_zero, List.getElem_cons_succ]
      refine wpAnyH_take (i := 1) (v := ?_) rfl (by kernel_rfl) (by kernel_rfl) (by kernel_rfl) (fun _ _ _ h => h) (Or.inl ⟨by rfl, ?_⟩) (by assumption) ?_
      rotate_left
      · (intro w hSw; (try dsimp only at hSw); go_simp; try (with_reducible rfl))
      try simp only [Act.put, List.setIfInBounds_toArray, List.set_cons_zero, List.set_cons_succ, List.getElem_toArray, List.getElem_cons_zero, List.getElem_cons_succ]
      refine wpAnyH_take (i := 2) (v := ?_) rfl (by kernel_rfl) (by kernel_rfl) (by kernel_rfl) (fun _ _ _ h => h) (Or.inl ⟨by rfl, ?_⟩) (by assumption) ?_
      rotate_left
      · (intro w hSw; (try dsimp only at hSw); go_simp; try (with_reducible rfl))
      try simp only [Act.put, List.setIfInBounds_toArray, List.set_cons_zero, List.set_cons_succ, List.getElem_toArray, List.getElem_cons_zero, List.getElem_cons_succ]
      refine wpAnyH_take (i := 3) (v := ?_) rfl (by kernel_rfl) (by kernel_rfl) (by kernel_rfl) (fun _ _ _ h => h) (Or.inl ⟨by rfl, ?_⟩) (by assumption) ?_
      rotate_left
      · (intro w hSw; (try dsimp only at hSw); go_simp; try (with_reducible rfl))
      try simp only [Act.put, List.setIfInBounds_toArray, List.set_cons_zero, List.set_cons_succ, List.getElem_toArray, List.getElem_cons_zero, List.getElem_cons_succ]
      refine wpAnyH_take (i := 4) (v := ?_) rfl (by kernel_rfl) (by kernel_rfl) (by kernel_rfl) (fun _ _ _ h => h) (Or.inl ⟨by rfl, ?_⟩) (by assumption) ?_
      rotate_left
      · (intro w hSw; (try dsimp only at hSw); go_simp; try (with_reducible rfl))
      try simp only [Act.put, List.setIfInBounds_toArray, List.set_cons_zero, List.set_cons_succ, List.getElem_toArray, List.getElem_cons_zero, List.getElem_cons_succ]
      refine wpAnyH_take (i := 5) (v := ?_) rfl (by kernel_rfl) (by kernel_rfl) (by kernel_rfl) (fun _ _ _ h => h) (Or.inl ⟨by rfl, ?_⟩) (by assumption) ?_
      rotate_left
      · (intro w hSw; (try dsimp only at hSw); go_simp; try (with_reducible rfl))
      try simp only [Act.put, List.setIfInBounds_toArray, List.set_cons_zero, List.set_cons_succ, List.getElem_toArray, List.getElem_cons_zero, List.getElem_cons_succ]
      refine wpAnyH_take (i := 6) (v := ?_) rfl (by kernel_rfl) (by kernel_rfl) (by kernel_rfl) (fun _ _ _ h => h) (Or.inl ⟨by rfl, ?_⟩) (by assumption) ?_
      rotate_left
      · (intro w hSw; (try dsimp only at hSw); go_simp; try (with_reducible rfl))
      try simp only [Act.put, List.setIfInBounds_toArray, List.set_cons_zero, List.set_cons_succ, List.getElem_toArray, List.getElem_cons_zero, List.getElem_cons_succ]
      refine wpAnyH_ready (rs := [7]) (by kernel_rfl) (by simp) ?_
      refine AllReadyH.cons rfl (fun K hK => ?_) AllReadyH.nil
      go_simp
      refine hK.out _ _ ?_ (fun hHeld => ?_)
      · trivial
      clear hK K
      try simp only [Act.put, List.setIfInBounds_toArray, List.set_cons_zero, List.set_cons_succ, List.getElem_toArray, List.getElem_cons_zero, List.getElem_cons_succ]
      refine wpAnyH_take (i := 8) (v := ?_) rfl (by kernel_rfl) (by kernel_rfl) (by kernel_rfl) (fun _ _ _ h => h) (Or.inl ⟨by rfl, ?_⟩) (by assumption) ?_
      rotate_left
      · (intro w hSw; (try dsimp only at hSw); go_simp; try (with_reducible rfl))
      try simp only [Act.put, List.setIfInBounds_toArray, List.set_cons_zero, List.set_cons_succ, List.getElem_toArray, List.getElem_cons_zero, List.getElem_cons_succ]
      refine wpAnyH_take (i := 9) (v := ?_) rfl (by kernel_rfl) (by kernel_rfl) (by kernel_rfl) (fun _ _ _ h => h) (Or.inl ⟨by rfl, ?_⟩) (by assumption) ?_
      rotate_left
      · (intro w hSw; (try dsimp only at hSw); go_simp; try (with_reducible rfl))
      try simp only [Act.put, List.setIfInBounds_toArray, List.set_cons_zero, List.set_cons_succ, List.getElem_toArray, List.getElem_cons_zero, List.getElem_cons_succ]
      refine wpAnyH_done (by kernel_rfl) ?_ _
      refine NoPanic.normal ?_
      go_wp2_with fail
      go_roundw
      case rel => exact ⟨k + m, by go_num, hm1, by omega, HN⟩
      case measure => simp [intOf]; omega
    · obtain rfl : k = n := by omega
      obtain ⟨HF⟩ : Nonempty (Hid (wr.ownsRow G 3 1 (.slice (some ⟨G, 0, none⟩) k k) k ((List.replicate k x).map intV) ∧ Below G w wr)) := ⟨by
        obtain ⟨cur, a, b', c, d⟩ := HK.out
        refine ⟨⟨by simp, .inr ⟨G, k, cur, rfl, Nat.le_refl _, a, Nat.le_refl _, by unfold maxLen; omega, by omega, ?_⟩⟩, d⟩
        rw [Nat.mul_one, List.map_replicate]
        apply List.ext_getElem (by simp [b'])
        intro j h1 h2
        have hj : j < k := by simpa using h2
        have := c j hj
        rw [List.getElem_take, List.getElem_replicate]
        simpa [Array.getElem?_eq_some_iff, b', hj] using this⟩
      go_wp2_with fail
      go_ret
      exact ⟨⟨_, rfl, HF.out.1⟩, HF.out.2⟩
end Go.Proofs.YtkebcfjofeoehaaGreatDoor
