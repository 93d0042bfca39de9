/-
  slices.Insert of one prefix into a row of one's own, ahead of one that is there: what it returns.
  Messages that are right: what Check's answer says of them, and what is right again when one route is taken for lost. No program here.
  One more prefix in a row of one's own, at its end or where it goes; slices.IndexFunc over what is above; package wire's withDrop: what they return.
-/
import Derived.Test.YtbfdgflbflajdaaGreatDoorGF
import Derived.Test.YtbfdgflbflajdaaGreatDoorGK
import Derived.Shelf.Spec.SlicesInsertGrow
import Derived.Test.YtbfdgflbflajdaaGreatDoorGI
namespace Go.Proofs.YtbfdgflbflajdaaGreatDoor
open Go.RowKit Go.Lib

theorem run_copy_pairs {P : Program} (w : World) (dT sT ty elem : TypeId) (b o dLen dCap : Nat) (a : Addr) (sLen sCap m : Nat) (cs : List Value)
    (hu : P.underlying dT = some (.slice elem)) (hs : (P.info? elem).map (·.size) = some 2) (hm : Nat.min sLen dLen = m) (hn : cs.length = m * 2)
    (hsrc : ∀ j v, cs[j]? = some v → w.cell? (a.add j) = some v) (hc : ∀ j, j < cs.length → (w.cell? ⟨b, o + j, none⟩).isSome = true) (hf : ∀ j, j < cs.length → w.frozen? ⟨b, o + j, none⟩ = false) (h1 : ∀ v ∈ cs, v.oneCell' = true) :
    (Builtin.copy_ #[dT, sT] ty #[.slice (some ⟨b, o, none⟩) dLen dCap, .slice (some a) sLen sCap]).run P w = .ok (goInt m) (w.setCells b o cs) := by
  have hl := run_firstCells_some (P := P) w 2 m a sLen sCap cs hn hsrc
  have hst := run_storeCells_cells (P := P) b o cs 0 w (by simpa using hc) (by simpa using hf) h1
  cases hq : P.info? elem with
  | none => simp [hq] at hs
  | some i =>
    have hi : i.size = 2 := by simpa [hq] using hs
    simp [Builtin.copy_, run_underlying hu, Builtin.lenOf, sizeOf, typeInfo, hq, hi, hm, hl, hst]

theorem infoPreSize : (Tryz.prog.info? 65).map (·.size) = some 2 := by kernel_rfl
theorem sizePre : ∀ w, (Go.sizeOf 65).run Tryz.prog w = .ok 2 w := fun w => by
  obtain ⟨i0, hi, -, h1, -⟩ := pInfo_parts infoPre
  simp [Go.sizeOf, typeInfo, hi, h1]

set_option linter.unusedVariables false in
set_option linter.unusedSimpArgs false in
set_option maxHeartbeats 4000000 in
set_option maxRecDepth 100000 in
theorem insP_shift (b n c i vb : Nat) (cs vs : List Value) (w : World) (hi : i < n) (hroom : n + 1 ≤ c) (hc63 : c ≤ 9223372036854775807) (hvb : vb ≠ b)
    (hcl : cs.length = n * 2) (hvl : vs.length = 2)
    (hcs : ∀ j v, cs[j]? = some v → w.cell? ⟨b, j, none⟩ = some v) (hsp : ∀ j, j < (n + 1) * 2 → (w.cell? ⟨b, j, none⟩).isSome = true) (hfz : ∀ j, j < (n + 1) * 2 → w.frozen? ⟨b, j, none⟩ = false)
    (hvs : ∀ j v, vs[j]? = some v → w.cell? ⟨vb, j, none⟩ = some v) (h1c : ∀ v ∈ cs, v.oneCell' = true) (h1v : ∀ v ∈ vs, v.oneCell' = true)
    (tA tB : TypeId) (kA kB : Nat) (hsa : w.shape? vb = some (tA, kA)) (hsb : w.shape? b = some (tB, kB)) (hkB : kB ≠ 0) (hfa : w.frozen? ⟨vb, 0, none⟩ = false) (hfe : w.frozen? ⟨vb, kA, none⟩ = false) :
    Calls Tryz.prog 172 #[.slice (some ⟨b, 0, none⟩) n c, .int .i64 i, .slice (some ⟨vb, 0, none⟩) 1 1] w fun e w' =>
      e = .returned (.slice (some ⟨b, 0, none⟩) (n + 1) c) ∧ w' = (w.drew.setCells b ((i + 1) * 2) (cs.drop (i * 2))).setCells b (i * 2) vs := by
  have hz2 : ¬ ((i : Int) = (n : Int)) := by omega
  have hov : ∀ lb cb, (callFunc 177 #[.slice (some ⟨vb, 0, none⟩) 1 1, .slice (some ⟨b, (i + 1) * 2, none⟩) lb cb]).run Tryz.prog w = .ok (.value (.bool false)) w := fun lb cb => by
    rw [run_callFunc_extern Tryz.func177 (by kernel_rfl) (by kernel_rfl) (by kernel_rfl) (e := Extern.SlicesOverlaps.overlaps #[52, 52] #[4]) (by kernel_rfl),
      Lib.run_overlaps_apart w 52 4 65 Tryz.underlying52 2 sizePre ⟨vb, 0, none⟩ ⟨b, (i + 1) * 2, none⟩ 1 1 lb cb hvb tA tB kA kB hsa hsb hkB hfa hfe]
    rfl
  have hdl : (cs.drop (i * 2)).length = (n - i) * 2 := by rw [List.length_drop, hcl]; omega
  have hw1 : IntKind.i64.wrap ((i : Int) + 1) = (i : Int) + 1 := by rw [IntKind.wrap_i64]; omega
  have hw2 : IntKind.i64.wrap ((n : Int) + 1) = (n : Int) + 1 := by rw [IntKind.wrap_i64]; omega
  have hb1 : (0 : Int) ≤ (i : Int) + 1 := by omega
  have hin : i ≤ n := by omega
  have htn : ((i : Int) + 1).toNat = i + 1 := by omega
  have htn2 : ((n : Int) + 1).toNat = n + 1 := by omega
  have hb2 : ¬ (c = i + 1) := by omega
  have hb3 : (i : Int) ≤ (n : Int) + 1 := by omega
  have hb4 : ¬ (c = i) := by omega
  have hcp1 : ∀ ty dc sc, (Builtin.copy_ #[52, 52] ty #[.slice (some ⟨b, (i + 1) * 2, none⟩) (n - i) dc, .slice (some ⟨b, i * 2, none⟩) (n + 1 - i) sc]).run Tryz.prog w.drew = .ok (goInt (n - i : Nat)) (w.drew.setCells b ((i + 1) * 2) (cs.drop (i * 2))) := fun ty dc sc =>
    run_copy_pairs w.drew _ _ ty 65 b ((i + 1) * 2) (n - i) dc ⟨b, i * 2, none⟩ (n + 1 - i) sc (n - i) (cs.drop (i * 2)) Tryz.underlying52 infoPreSize (by simp only [Nat.min_def]; split <;> omega) hdl
      (fun j v hj => by rw [Addr.add_lit]; exact hcs (i * 2 + j) v (by rwa [List.getElem?_drop] at hj))
      (fun j hj => hsp _ (by omega)) (fun j hj => hfz _ (by omega)) (fun v hv => h1c v (List.mem_of_mem_drop hv))
  obtain ⟨W1, hW1⟩ : ∃ W1, W1 = w.drew.setCells b ((i + 1) * 2) (cs.drop (i * 2)) := ⟨_, rfl⟩
  have hsp1 : ∀ k, k < (n + 1) * 2 → (W1.cell? ⟨b, k, none⟩).isSome = true := fun k hk => by
    rw [hW1]
    exact isSome_setCells b _ _ w.drew (fun j hj => hsp ((i + 1) * 2 + j) (by rw [hdl] at hj; omega)) _ (hsp k hk)
  have hcp2 : ∀ (W : World), (∀ x, W.cell? x = W1.cell? x) → (∀ x, W.frozen? x = W1.frozen? x) → ∀ ty dc, (Builtin.copy_ #[52, 52] ty #[.slice (some ⟨b, i * 2, none⟩) (n + 1 - i) dc, .slice (some ⟨vb, 0, none⟩) 1 1]).run Tryz.prog W = .ok (goInt (1 : Nat)) (W.setCells b (i * 2) vs) := fun W hWc hWf ty dc =>
    run_copy_pairs W _ _ ty 65 b (i * 2) (n + 1 - i) dc ⟨vb, 0, none⟩ 1 1 1 vs Tryz.underlying52 infoPreSize (by simp only [Nat.min_def]; split <;> omega) hvl
      (fun j v hj => by
        rw [Addr.add_lit, hWc, hW1, World.cell?_setCells_out b _ _ _ _ (fun h _ => absurd h hvb), Nat.zero_add]
        exact hvs j v hj)
      (fun j hj => by rw [hWc]; exact hsp1 _ (by omega)) (fun j hj => by rw [hWf, hW1, World.frozen?_setCells]; exact hfz _ (by omega)) h1v
  rw [← hW1] at hcp1
  have mixed : Tryz.prog.follows .mixedOrders = true := by kernel_rfl
  go_enter Tryz.func172, Tryz.ntmps172
  go_wp2_with (simp only [hov])
  go_region_law_o (refine step_copy_runI rfl _ _ 52 52 rfl _ _ (by simp [Act.eval, Act.put]) (by simp [Act.eval, Act.put]) (hcp1 _ _ _) ?_)
  go_wp2_with (at_builtin; refine wpList_copy_runI _ rfl _ _ 52 52 rfl _ _ rfl rfl (hcp2 _ (fun _ => rfl) (fun _ => rfl) _ _) ?_)
  go_ret
  first | exact ⟨rfl, rfl⟩ | exact ⟨rfl, by rw [hW1]⟩
set_option linter.unusedVariables false in
set_option linter.unusedSimpArgs false in
set_option maxHeartbeats 4000000 in
set_option maxRecDepth 100000 in
theorem insP_grow (b n c i vb : Nat) (cs vs : List Value) (w : World) (hi : i < n) (hnc : n ≤ c) (hroom : c < n + 1) (hbig : n ≤ 1000000)
    (hcl : cs.length = n * 2) (hvl : vs.length = 2)
    (hcs : ∀ j v, cs[j]? = some v → w.cell? ⟨b, j, none⟩ = some v)
    (hvs : ∀ j v, vs[j]? = some v → w.cell? ⟨vb, j, none⟩ = some v) (h1c : ∀ v ∈ cs, v.oneCell' = true) (h1v : ∀ v ∈ vs, v.oneCell' = true) :
    Calls Tryz.prog 172 #[.slice (some ⟨b, 0, none⟩) n c, .int .i64 i, .slice (some ⟨vb, 0, none⟩) 1 1] w fun e w' =>
      e = .returned (.slice (some ⟨w.heap.size, 0, none⟩) (n + 1) (grownCap w (n + 1) c 65)) ∧
      w' = (((w.drew.alloc (.cells ((cs.take (i * 2)).toArray ++ Builtin.zeroCells (Value.agg #[.int .i64 0, .int .i64 0]).cells (n + 1 - i) ++ Builtin.zeroCells (Value.agg #[.int .i64 0, .int .i64 0]).cells (grownCap w (n + 1) c 65 - (n + 1))) 65)).setCells w.heap.size (i * 2) vs).drew).setCells w.heap.size ((i + 1) * 2) (cs.drop (i * 2)) := by
  obtain ⟨i0, hi0, hz0, hzs, hzb⟩ := pInfo_parts infoPre
  have mixed : Tryz.prog.follows .mixedOrders = true := by kernel_rfl
  have hz2 : ¬ ((i : Int) = (n : Int)) := by omega
  have hz3 : (c : Int) < (n : Int) + 1 := by omega
  have hbw : b < w.heap.size := block_lt_of_cell (hcs 0 _ (List.getElem?_eq_getElem (by omega)))
  have hvw : vb < w.heap.size := block_lt_of_cell (hvs 0 _ (List.getElem?_eq_getElem (by omega)))
  have hkk : (n : Int) + 1 - (i : Int) = ((n + 1 - i : Nat) : Int) := by omega
  have hik : i + (n + 1 - i) = n + 1 := by omega
  have hold : (Builtin.firstCells i0.size i (.slice (some ⟨b, 0, none⟩) i c)).run Tryz.prog w.drew = .ok (cs.take (i * 2)).toArray w.drew := by
    rw [hzs]
    exact run_firstCells_some w.drew 2 i ⟨b, 0, none⟩ i c (cs.take (i * 2)) (by rw [List.length_take]; omega) (fun j v hj => by
      rw [Addr.add_lit, Nat.zero_add]
      rw [List.getElem?_take] at hj
      split at hj
      · exact hcs j v hj
      · cases hj)
  have hrz : ∀ ty, (Builtin.append_ #[52, 3] ty #[.slice (some ⟨b, 0, none⟩) i c, .int .i64 ((n : Int) + 1 - (i : Int))]).run Tryz.prog w =
      .ok (.slice (some ⟨w.heap.size, 0, none⟩) (n + 1) (grownCap w (n + 1) c 65)) (w.drew.alloc (.cells ((cs.take (i * 2)).toArray ++ Builtin.zeroCells (Value.agg #[.int .i64 0, .int .i64 0]).cells (n + 1 - i) ++ Builtin.zeroCells (Value.agg #[.int .i64 0, .int .i64 0]).cells (grownCap w (n + 1) c 65 - (n + 1))) 65)) := fun ty => by
    have h := Lib.run_append_grow_zeros (P := Tryz.prog) w 52 3 ty 65 i0 _ .i64 .i64 Tryz.underlying52 Tryz.underlying3 hi0 hz0 (some ⟨b, 0, none⟩) i c (cs.take (i * 2)) hold (n + 1 - i) (by omega) (by omega) (by omega) (by omega) (by rw [hzb]; omega) (by rw [hik, hzb]; exact growslice_fits (by omega) (by omega))
    rw [hik] at h
    rw [hkk]
    exact h
  obtain ⟨G, hG⟩ : ∃ G, G = grownCap w (n + 1) c 65 := ⟨_, rfl⟩
  obtain ⟨ROW, hROW⟩ : ∃ ROW : Array Value, ROW = (cs.take (i * 2)).toArray ++ Builtin.zeroCells (Value.agg #[.int .i64 0, .int .i64 0]).cells (n + 1 - i) ++ Builtin.zeroCells (Value.agg #[.int .i64 0, .int .i64 0]).cells (G - (n + 1)) := ⟨_, rfl⟩
  rw [← hG] at hrz ⊢
  rw [← hROW] at hrz ⊢
  have hRl : (n + 1) * 2 ≤ ROW.size := by
    rw [hROW]
    simp [Builtin.zeroCells, Value.cells]
    omega
  obtain ⟨W1, hW1⟩ : ∃ W1, W1 = w.drew.alloc (.cells ROW 65) := ⟨_, rfl⟩
  rw [← hW1] at hrz
  have hN : ∀ j, j < (n + 1) * 2 → (W1.cell? ⟨w.heap.size, j, none⟩).isSome = true := fun j hj => by
    rw [hW1, World.cell?_alloc_at (w := w.drew) ROW _ w.heap.size j rfl, Array.getElem?_eq_getElem (by omega)]; rfl
  have hNf : ∀ j, W1.frozen? ⟨w.heap.size, j, none⟩ = false := fun j => by rw [hW1]; exact World.frozen?_alloc_at (w := w.drew) ROW _ w.heap.size j rfl
  have hOb : ∀ j v, w.cell? ⟨b, j, none⟩ = some v → W1.cell? ⟨b, j, none⟩ = some v := fun j v h => by rw [hW1, World.cell?_alloc_past (w := w.drew) _ b j hbw]; exact h
  have hOv : ∀ j v, w.cell? ⟨vb, j, none⟩ = some v → W1.cell? ⟨vb, j, none⟩ = some v := fun j v h => by rw [hW1, World.cell?_alloc_past (w := w.drew) _ vb j hvw]; exact h
  have hcpA : ∀ (W : World), (∀ x, W.cell? x = W1.cell? x) → (∀ x, W.frozen? x = W1.frozen? x) → ∀ ty dc, (Builtin.copy_ #[52, 52] ty #[.slice (some ⟨w.heap.size, i * 2, none⟩) (n + 1 - i) dc, .slice (some ⟨vb, 0, none⟩) 1 1]).run Tryz.prog W = .ok (goInt (1 : Nat)) (W.setCells w.heap.size (i * 2) vs) := fun W hWc hWf ty dc =>
    run_copy_pairs W _ _ ty 65 w.heap.size (i * 2) (n + 1 - i) dc ⟨vb, 0, none⟩ 1 1 1 vs Tryz.underlying52 infoPreSize (by simp only [Nat.min_def]; split <;> omega) hvl
      (fun j v hj => by rw [Addr.add_lit, hWc, Nat.zero_add]; exact hOv _ v (hvs j v hj))
      (fun j hj => by rw [hWc]; exact hN _ (by omega)) (fun j hj => by rw [hWf]; exact hNf _) h1v
  have hGn : n + 1 ≤ G := by rw [hG]; exact grownCap_ge w _ _ _
  have hG63 : G ≤ 9223372036854775807 := by
    have := grownCap_le_maxLen w (n + 1) c 65 (by unfold maxLen; omega)
    rw [← hG] at this
    unfold maxLen at this
    omega
  have hGi : ¬ (G = i) := by omega
  have hGim : ¬ (G = i + 1) := by omega
  have hci : ¬ (c = i) := by omega
  have hbN : b ≠ w.heap.size := by omega
  have hdl : (cs.drop (i * 2)).length = (n - i) * 2 := by rw [List.length_drop, hcl]; omega
  have hcpB : ∀ (W : World), (∀ x, W.cell? x = (W1.setCells w.heap.size (i * 2) vs).cell? x) → (∀ x, W.frozen? x = (W1.setCells w.heap.size (i * 2) vs).frozen? x) → ∀ ty dc sc, (Builtin.copy_ #[52, 52] ty #[.slice (some ⟨w.heap.size, (i + 1) * 2, none⟩) (n - i) dc, .slice (some ⟨b, i * 2, none⟩) (n - i) sc]).run Tryz.prog W = .ok (goInt (n - i : Nat)) (W.setCells w.heap.size ((i + 1) * 2) (cs.drop (i * 2))) := fun W hWc hWf ty dc sc =>
    run_copy_pairs W _ _ ty 65 w.heap.size ((i + 1) * 2) (n - i) dc ⟨b, i * 2, none⟩ (n - i) sc (n - i) (cs.drop (i * 2)) Tryz.underlying52 infoPreSize (by simp only [Nat.min_def]; split <;> omega) hdl
      (fun j v hj => by
        rw [Addr.add_lit, hWc, World.cell?_setCells_out _ _ _ _ _ (fun h _ => absurd h hbN)]
        exact hOb _ v (hcs (i * 2 + j) v (by rwa [List.getElem?_drop] at hj)))
      (fun j hj => by rw [hWc]; exact isSome_setCells _ _ _ _ (fun t ht => hN _ (by omega)) _ (hN _ (by omega)))
      (fun j hj => by rw [hWf, World.frozen?_setCells]; exact hNf _) (fun v hv => h1c v (List.mem_of_mem_drop hv))
  subst hW1
  have hE1 : ∀ x, ((w.alloc (.cells ROW 65)).drew).cell? x = (w.drew.alloc (.cells ROW 65)).cell? x := fun x => rfl
  have hE2 : ∀ x, ((w.alloc (.cells ROW 65)).drew).frozen? x = (w.drew.alloc (.cells ROW 65)).frozen? x := fun x => rfl
  have hw1 : IntKind.i64.wrap ((i : Int) + 1) = (i : Int) + 1 := by rw [IntKind.wrap_i64]; omega
  have hw2 : IntKind.i64.wrap ((n : Int) + 1) = (n : Int) + 1 := by rw [IntKind.wrap_i64]; omega
  have hw3 : IntKind.i64.wrap ((n : Int) + 1 - (i : Int)) = (n : Int) + 1 - (i : Int) := by rw [IntKind.wrap_i64]; omega
  have hb1 : (0 : Int) ≤ (i : Int) + 1 := by omega
  have hin : i ≤ n := by omega
  have htn : ((i : Int) + 1).toNat = i + 1 := by omega
  have hb3 : (i : Int) ≤ (n : Int) := by omega
  clear hkk hik hold hROW hG hRl
  go_enter Tryz.func172, Tryz.ntmps172
  go_wp2_with (first
    | (at_builtin; refine Lib.wpList_append_run _ rfl _ _ _ _ rfl _ _ rfl rfl _ _ (hrz _) ?_)
    | (at_builtin; refine wpList_copy_runI _ rfl _ _ 52 52 rfl _ _ rfl rfl (hcpA _ hE1 hE2 _ _) ?_))
  have hB := hcpB (((w.alloc (.cells ROW 65)).drew.setCells w.heap.size (i * 2) vs).drew) (fun _ => rfl) (fun _ => rfl) 3 (G - (i + 1)) (c - i)
  go_region_law_o (refine step_copy_runI rfl _ _ 52 52 rfl _ _ (by simp [Act.eval, Act.put]) (by simp [Act.eval, Act.put]) hB ?_)
  go_wp2
  go_ret
  exact ⟨rfl, rfl⟩
end Go.Proofs.YtbfdgflbflajdaaGreatDoor

namespace Go.Proofs.YtbfdgflbflajdaaGreatDoor
open Go.RowKit

theorem firstQ_zero (q : Nat → Nat) (n : Nat) : (firstQ q n).1 = 0 ↔ ∀ k, k < n → q k = 0 := by
  obtain ⟨h1, h2, h3⟩ := firstN_spec (fun k => decide (q k ≠ 0)) n
  unfold firstQ
  split
  · rename_i hlt
    have := h3 hlt
    replace this := of_decide_eq_true this
    constructor
    · intro h; exact absurd h this
    · intro h; exact absurd (h _ hlt) this
  · rename_i hlt
    refine ⟨fun _ k hk => ?_, fun _ => rfl⟩
    have := h2 k (by omega)
    simpa using this
theorem chkC_zero (a n : Int) : chkC a n = 0 ↔ rt a n = true := by
  rw [rt_iff]
  unfold chkC
  simp only [isA_iff, isL_iff]
  by_cases h : (0 ≤ a ∧ a < 4294967296) ∧ 0 ≤ n ∧ n ≤ 32
  · rw [if_pos h]
    by_cases h2 : a % pw n = 0
    · rw [if_pos h2]; exact ⟨fun _ => ⟨h.1, h.2, h2⟩, fun _ => rfl⟩
    · rw [if_neg h2]; exact ⟨fun e => (by cases e), fun e => absurd e.2.2 h2⟩
  · rw [if_neg h]; exact ⟨fun e => (by cases e), fun e => absurd ⟨e.1, e.2.1⟩ h⟩
def ltP (x y : Int × Int) : Prop := x.1 < y.1 ∨ (x.1 = y.1 ∧ x.2 < y.2)
theorem ltP_trans {x y z : Int × Int} (h1 : ltP x y) (h2 : ltP y z) : ltP x z := by unfold ltP at *; omega
theorem ltP_irr {x : Int × Int} (h : ltP x x) : False := by unfold ltP at h; omega
theorem ltP_tri (x y : Int × Int) : ltP x y ∨ x = y ∨ ltP y x := by
  obtain ⟨a, b⟩ := x
  obtain ⟨c, d⟩ := y
  unfold ltP
  simp only [Prod.mk.injEq]
  omega
theorem lessB_iff {x y : Int × Int} (hx : rt x.1 x.2 = true) (hy : rt y.1 y.2 = true) : lessB x.1 x.2 y.1 y.2 = true ↔ ltP x y := by
  unfold lessB ltP
  simp [hx, hy]
/-- a list of prefixes that are right and rise. -/
structure Rise (L : List (Int × Int)) : Prop where
  rt : ∀ x ∈ L, rt x.1 x.2 = true
  up : L.Pairwise ltP
theorem pair_step {L : List (Int × Int)} : L.Pairwise ltP ↔ ∀ k (h : k + 1 < L.length), ltP L[k] L[k + 1] := by
  induction L with
  | nil => simp
  | cons a L ih =>
    rw [List.pairwise_cons, ih]
    constructor
    · rintro ⟨h1, h2⟩ k hk
      cases k with
      | zero => exact h1 _ (List.getElem_mem _)
      | succ k => exact h2 k (by simpa using hk)
    · intro h
      have h2 : ∀ k (h : k + 1 < L.length), ltP L[k] L[k + 1] := fun k hk => h (k + 1) (by simpa using hk)
      refine ⟨fun b hb => ?_, h2⟩
      have h3 := ih.2 h2
      cases L with
      | nil => simp at hb
      | cons c L =>
        have h4 : ltP a c := h 0 (by simp)
        rcases List.mem_cons.1 hb with rfl | hb
        · exact h4
        · exact ltP_trans h4 ((List.pairwise_cons.1 h3).1 _ hb)
theorem preC_zero (L : List (Int × Int)) (P : Nat → Int × Int) (hP : ∀ k (h : k < L.length), P k = L[k]) : (∀ k, k < L.length → preC P k = 0) ↔ Rise L := by
  constructor
  · intro h
    have h1 : ∀ k (hk : k < L.length), rt L[k].1 L[k].2 = true := fun k hk => by
      have := h k hk
      unfold preC at this
      rw [← hP k hk, ← chkC_zero]
      by_cases e : chkC (P k).1 (P k).2 = 0
      · exact e
      · rw [if_pos e] at this; exact absurd this e
    refine ⟨fun x hx => ?_, pair_step.2 fun k hk => ?_⟩
    · obtain ⟨k, hk, rfl⟩ := List.getElem_of_mem hx
      exact h1 k hk
    · rw [← lessB_iff (h1 k (by omega)) (h1 (k + 1) hk), ← hP k (by omega), ← hP (k + 1) hk]
      have := h (k + 1) hk
      unfold preC at this
      rw [if_neg (by rw [ne_eq, Decidable.not_not, chkC_zero, hP (k + 1) hk]; exact h1 _ hk)] at this
      cases e : lessB (P k).1 (P k).2 (P (k + 1)).1 (P (k + 1)).2 with
      | true => rfl
      | false => rw [if_pos ⟨by omega, by simpa using e⟩] at this; cases this
  · rintro ⟨h1, h2⟩ k hk
    have r1 : ∀ k (hk : k < L.length), rt L[k].1 L[k].2 = true := fun k hk => h1 _ (List.getElem_mem hk)
    unfold preC
    rw [if_neg (by rw [ne_eq, Decidable.not_not, chkC_zero, hP k hk]; exact r1 k hk), if_neg]
    rintro ⟨h0, h3⟩
    obtain ⟨j, rfl⟩ : ∃ j, k = j + 1 := ⟨k - 1, by omega⟩
    simp only [Nat.add_sub_cancel] at h3
    rw [hP j (by omega), hP (j + 1) hk, (lessB_iff (r1 j (by omega)) (r1 (j + 1) hk)).2 (pair_step.1 h2 j hk)] at h3
    cases h3
/-- a message that is right. -/
structure RightM (M : Ms) : Prop where
  head : headC M.kind M.n = 0
  none : M.kind ≠ kNews → M.drops = [] ∧ M.adds = []
  len : M.drops.length ≤ 60 ∧ M.adds.length ≤ 60
  drops : Rise M.drops
  adds : Rise (M.adds.map (·.dst))
  att : ∀ r ∈ M.adds, (faultA r.att).1.toNat = 0 ∧ r.frm = 0
  apart : ∀ r ∈ M.adds, r.dst ∉ M.drops
theorem newsC_zero (D : List (Int × Int)) (L : List Ro) : (newsC D L).1 = 0 ↔ (D.length ≤ 60 ∧ L.length ≤ 60) ∧ Rise D ∧ Rise (L.map (·.dst)) ∧ (∀ r ∈ L, (faultA r.att).1.toNat = 0 ∧ r.frm = 0) ∧ (∀ r ∈ L, r.dst ∉ D) := by
  unfold newsC
  by_cases h0 : 60 < D.length ∨ 60 < L.length
  · rw [if_pos h0]
    exact ⟨fun e => (by cases e), fun e => by have := e.1; omega⟩
  rw [if_neg h0]
  have hD : (firstQ (qD D) D.length).1 = 0 ↔ Rise D := by
    rw [firstQ_zero]
    exact preC_zero D (dropP D) (fun k h => by unfold dropP; simp [List.getD, h])
  by_cases h1 : (firstQ (qD D) D.length).1 = 0
  rotate_left
  · rw [if_pos h1]
    exact ⟨fun e => absurd e h1, fun e => absurd (hD.2 e.2.1) h1⟩
  rw [if_neg (by simpa using h1)]
  have hP : ∀ k (h : k < (L.map (·.dst)).length), addP L k = (L.map (·.dst))[k] := fun k h => by
    rw [addP_at L k (by simpa using h)]; simp
  have hA : (firstQ (qA L) L.length).1 = 0 ↔ Rise (L.map (·.dst)) ∧ (∀ r ∈ L, (faultA r.att).1.toNat = 0 ∧ r.frm = 0) := by
    rw [firstQ_zero, ← preC_zero (L.map (·.dst)) (addP L) hP]
    constructor
    · intro h
      refine ⟨fun k hk => ?_, fun r hr => ?_⟩
      · have := h k (by simpa using hk)
        unfold qA at this
        by_cases e : preC (addP L) k = 0
        · exact e
        · rw [if_pos e] at this; exact this
      · obtain ⟨k, hk, rfl⟩ := List.getElem_of_mem hr
        have := h k hk
        unfold qA at this
        rw [rGetD_at L k hk] at this
        by_cases e : preC (addP L) k = 0
        · rw [if_neg (by simpa using e)] at this
          by_cases e2 : (faultA L[k].att).1.toNat = 0
          · rw [if_neg (by simpa using e2)] at this
            by_cases e3 : L[k].frm = 0
            · exact ⟨e2, e3⟩
            · rw [if_pos e3] at this; cases this
          · rw [if_pos e2] at this; exact absurd this e2
        · rw [if_pos e] at this; exact absurd this e
    · rintro ⟨h2, h3⟩ k hk
      unfold qA
      rw [rGetD_at L k hk]
      have := h3 _ (List.getElem_mem hk)
      rw [if_neg (by simpa using h2 k (by simpa using hk)), if_neg (by simpa using this.1), if_neg (by simpa using this.2)]
  by_cases h2 : (firstQ (qA L) L.length).1 = 0
  rotate_left
  · rw [if_pos h2]
    exact ⟨fun e => absurd e h2, fun e => absurd (hA.2 ⟨e.2.2.1, e.2.2.2.1⟩) h2⟩
  rw [if_neg (by simpa using h2), firstQ_zero]
  constructor
  · intro h
    refine ⟨by omega, hD.1 h1, (hA.1 h2).1, (hA.1 h2).2, fun r hr hm => ?_⟩
    obtain ⟨k, hk, rfl⟩ := List.getElem_of_mem hr
    have := h k hk
    unfold qX hasP at this
    rw [addP_at L k hk, decide_eq_true hm] at this
    simp at this
  · rintro ⟨-, -, -, -, h⟩ k hk
    unfold qX hasP
    rw [addP_at L k hk, decide_eq_false (h _ (List.getElem_mem hk))]
    rfl
theorem msgC_zero (M : Ms) : (msgC M).1 = 0 ↔ RightM M := by
  unfold msgC
  by_cases h1 : headC M.kind M.n = 0
  rotate_left
  · rw [if_pos h1]
    exact ⟨fun e => absurd e h1, fun e => absurd e.head h1⟩
  rw [if_neg (by simpa using h1)]
  by_cases h2 : M.kind = kNews
  · rw [if_pos h2, newsC_zero]
    exact ⟨fun ⟨a, b, c, d, e⟩ => ⟨h1, fun h => absurd h2 h, a, b, c, d, e⟩, fun h => ⟨h.len, h.drops, h.adds, h.att, h.apart⟩⟩
  · rw [if_neg h2]
    by_cases h3 : 0 < M.drops.length ∨ 0 < M.adds.length
    · rw [if_pos h3]
      exact ⟨fun e => (by cases e), fun e => by have := e.none h2; rw [this.1, this.2] at h3; simp at h3⟩
    · rw [if_neg h3]
      have e1 : M.drops = [] := List.eq_nil_of_length_eq_zero (by omega)
      have e2 : M.adds = [] := List.eq_nil_of_length_eq_zero (by omega)
      refine ⟨fun _ => ⟨h1, fun _ => ⟨e1, e2⟩, by rw [e1, e2]; simp, by rw [e1]; exact ⟨by simp, by simp⟩, by rw [e2]; exact ⟨by simp, by simp⟩, by rw [e2]; simp, by rw [e2]; simp⟩, fun _ => rfl⟩
theorem headC_zero {k : List UInt8} {n : Int} (h : headC k n = 0) : (k = kOpen ∨ k = kNote ∨ k = kKeep ∨ k = kNews) ∧ 0 ≤ n ∧ n ≤ 1000 ∧ (k = kKeep ∨ k = kNews → n = 0) := by
  unfold headC at h
  split at h
  · rename_i e
    subst e
    split at h
    · rename_i e
      unfold inB3 at e
      simp only [Bool.and_eq_true, decide_eq_true_eq] at e
      exact ⟨.inl rfl, by omega, by omega, by rintro (e | e) <;> cases e⟩
    · cases h
  split at h
  · rename_i e
    subst e
    split at h
    · rename_i e
      unfold inB3 at e
      simp only [Bool.and_eq_true, decide_eq_true_eq] at e
      exact ⟨.inr (.inl rfl), by omega, by omega, by rintro (e | e) <;> cases e⟩
    · cases h
  split at h
  · rename_i e
    split at h
    · rename_i e2
      exact ⟨.inr (.inr e), by omega, by omega, fun _ => e2⟩
    · cases h
  · cases h
/-- where a prefix goes among prefixes that rise: ahead of the first above it. -/
def insP (p : Int × Int) : List (Int × Int) → List (Int × Int)
  | [] => [p]
  | x :: L => if lessB p.1 p.2 x.1 x.2 then p :: x :: L else x :: insP p L
theorem insP_mem (p : Int × Int) (L : List (Int × Int)) (x : Int × Int) : x ∈ insP p L ↔ x = p ∨ x ∈ L := by
  induction L with
  | nil => simp [insP]
  | cons y L ih =>
    unfold insP
    split
    · simp
    · simp only [List.mem_cons, ih]
      exact ⟨fun h => by rcases h with h | h | h <;> simp [h], fun h => by rcases h with h | h | h <;> simp [h]⟩
theorem insP_len (p : Int × Int) (L : List (Int × Int)) : (insP p L).length = L.length + 1 := by
  induction L with
  | nil => rfl
  | cons y L ih =>
    unfold insP
    split
    · rfl
    · simp [ih]
theorem insP_rise {p : Int × Int} {L : List (Int × Int)} (hp : rt p.1 p.2 = true) (h : Rise L) (hn : p ∉ L) : Rise (insP p L) := by
  refine ⟨fun x hx => ?_, ?_⟩
  · rcases (insP_mem p L x).1 hx with rfl | hx
    · exact hp
    · exact h.rt x hx
  · obtain ⟨hr, hu⟩ := h
    induction L with
    | nil => simp [insP]
    | cons y L ih =>
      have hy := hr y (by simp)
      rw [List.pairwise_cons] at hu
      unfold insP
      split
      · rename_i e
        have e := (lessB_iff hp hy).1 e
        rw [List.pairwise_cons]
        refine ⟨fun z hz => ?_, List.pairwise_cons.2 hu⟩
        rcases List.mem_cons.1 hz with rfl | hz
        · exact e
        · exact ltP_trans e (hu.1 z hz)
      · rename_i e
        have e : ¬ ltP p y := fun h => e ((lessB_iff hp hy).2 h)
        rw [List.pairwise_cons]
        refine ⟨fun z hz => ?_, ih (fun h => hn (List.mem_cons_of_mem _ h)) (fun z hz => hr z (List.mem_cons_of_mem _ hz)) hu.2⟩
        rcases (insP_mem p L z).1 hz with rfl | hz
        · rcases ltP_tri z y with h | h | h
          · exact absurd h e
          · exact absurd (by simp [h]) hn
          · exact h
        · exact hu.1 z hz
/-- one route is taken for lost. -/
theorem lost_right {D : List (Int × Int)} {L : List Ro} {n : Int} (h : RightM ⟨kNews, n, D, L⟩) (at0 : Nat) (ha : at0 < L.length) (hd : D.length < 60) : RightM ⟨kNews, n, insP L[at0].dst D, L.eraseIdx at0⟩ := by
  have hsub : (L.eraseIdx at0).Sublist L := List.eraseIdx_sublist _ _
  have hm : L[at0] ∈ L := List.getElem_mem ha
  refine ⟨h.head, fun e => absurd rfl e, ?_, insP_rise (h.adds.rt _ (List.mem_map_of_mem hm)) h.drops (h.apart _ hm), ⟨fun x hx => h.adds.rt x ((hsub.map _).subset hx), h.adds.up.sublist (hsub.map _)⟩, fun r hr => h.att r (hsub.subset hr), fun r hr hi => ?_⟩
  · have := h.len
    have := hsub.length_le
    simp only [insP_len]
    simp only at *
    omega
  · rcases (insP_mem _ _ _).1 hi with e | e
    · have hnd : (L.map (·.dst)).Nodup := h.adds.up.imp (fun hab e => by subst e; exact ltP_irr hab)
      rw [List.mem_eraseIdx_iff_getElem] at hr
      obtain ⟨i, hi9, hne, rfl⟩ := hr
      have := (List.getElem_inj (xs := L.map (·.dst)) (h₀ := by simpa using hi9) (h₁ := by simpa using ha) hnd).1 (by simpa using e)
      omega
    · exact h.apart r (hsub.subset hr) e
end Go.Proofs.YtbfdgflbflajdaaGreatDoor

namespace Go.Proofs.YtbfdgflbflajdaaGreatDoor
open Go.RowKit

theorem setCells_other (b : Nat) : ∀ (vs : List Value) (o : Nat) (w : World) (k : Nat), k ≠ b → (w.setCells b o vs).heap[k]? = w.heap[k]?
  | [], _, _, _, _ => rfl
  | v :: r, o, w, k, h => by rw [World.setCells, setCells_other b r (o + 1) _ k h]; exact Below.heap_setCell _ _ _ _ (by simpa using h)
/-- a row grew: all other blocks stand, and it lies where it lay or in a new block. -/
structure Grew (w w' : World) (v v' : Value) : Prop where
  os : w'.os = w.os
  tape : w'.tape = w.tape
  output : w'.output = w.output
  size : w.heap.size ≤ w'.heap.size
  block : ∀ k, k < w.heap.size → some k ≠ v.ownBlock → w'.heap[k]? = w.heap[k]?
  own : v'.ownBlock = v.ownBlock ∨ ∃ b, v'.ownBlock = some b ∧ w.heap.size ≤ b
theorem Grew.of_below {w w' : World} {v : Value} (h : Below w.heap.size w w') : Grew w w' v v := ⟨h.os, h.tape, h.output, h.size, fun k hk _ => h.block k hk, .inl rfl⟩
theorem Grew.behind {w w1 w2 : World} {v v' : Value} (hb : Below w.heap.size w w1) (h : Grew w1 w2 v v') : Grew w w2 v v' :=
  ⟨h.os.trans hb.os, h.tape.trans hb.tape, h.output.trans hb.output, Nat.le_trans hb.size h.size, fun k hk hn => (h.block k (Nat.lt_of_lt_of_le hk hb.size) hn).trans (hb.block k hk), by
    rcases h.own with e | ⟨b, e, hb'⟩
    · exact .inl e
    · exact .inr ⟨b, e, Nat.le_trans hb.size hb'⟩⟩
theorem Grew.ahead {w w1 w2 : World} {v v' : Value} (h : Grew w w1 v v') (hb : Below w1.heap.size w1 w2) : Grew w w2 v v' :=
  ⟨hb.os.trans h.os, hb.tape.trans h.tape, hb.output.trans h.output, Nat.le_trans h.size hb.size, fun k hk hn => (hb.block k (Nat.lt_of_lt_of_le hk h.size)).trans (h.block k hk hn), h.own⟩

/-- one more pair at a row's end. -/
theorem op_pushP {P : Program} {W : World} {o : Oper} {a : Act} {K : Act → World → Prop} {Q : Exit → Act → World → Prop} (s x : Operand) (t : TypeId)
    (ho : o.op = .call { callee := .builtin .append, args := #[s, x], argTypes := #[t, t] })
    (base : Nat) (e : TypeId) (i : TypeInfo) (ht : P.underlying t = some (.slice e)) (hi : P.info? e = some i) (hz : i.zero = some (.agg #[.int .i64 0, .int .i64 0])) (hsize : i.size = 2) (hby : i.bytes = 16)
    (v : Value) (O : List (Int × Int)) (hs : a.eval s = v) (hown : W.ownsRow base e 2 v O.length (flat2 O)) (x0 x1 : Int) (g : Nat) (hx : a.eval x = .slice (some ⟨g, 0, none⟩) 1 1) (hg : W.heap.size = g) (O' : List (Int × Int)) (hO' : Hid (O ++ [(x0, x1)] = O'))
    (hO : O.length ≤ 1099511627776) (hbase : base ≤ W.heap.size)
    (h : ∀ v' w', w'.ownsRow base e 2 v' O'.length (flat2 O') → Grew W w' v v' → K (a.put o.dst v') w') : o.wp P a (W.alloc (.cells #[.int .i64 x0, .int .i64 x1] e)) K Q := by
  subst hg
  have hcell : ∀ j u, ([.int .i64 x0, .int .i64 x1] : List Value)[j]? = some u → (W.alloc (.cells #[.int .i64 x0, .int .i64 x1] e)).cell? ((⟨W.heap.size, 0, none⟩ : Addr).add j) = some u := fun j u hj => by
    rw [Addr.add_lit, Nat.zero_add, World.cell?_alloc_at _ _ _ _ rfl]
    simpa using hj
  obtain ⟨v', w', hrun, h2, h3, h4⟩ := run_grow_own (P := P) (W.alloc (.cells #[.int .i64 x0, .int .i64 x1] e)) base t o.type e i _ 2 16 ht hi hz hsize hby rfl (by decide) v O.length (flat2 O) (hown.alloc _) ⟨W.heap.size, 0, none⟩ 1 1 [.int .i64 x0, .int .i64 x1] rfl hcell (by intro u hu; simp at hu; rcases hu with rfl | rfl <;> rfl) (by unfold maxLen; omega) (by omega) (by simp; omega)
  unfold Oper.wp execOp
  simp only [ho, resolve, invoke, builtin, Sem.run_bind, Sem.run_pure, Result.andThen_ok, List.map_toArray, List.map_cons, List.map_nil, hs, hx, hrun]
  have hsz : (W.alloc (.cells #[.int .i64 x0, .int .i64 x1] e)).heap.size = W.heap.size + 1 := by simp
  refine h v' w' ?_ (Grew.behind (below_alloc _ _) ⟨h3.os, h3.tape, h3.output, h3.size, h3.block, ?_⟩)
  · rw [← hO'.out, flat2_append, flat2_one, List.length_append]
    exact h2
  · rcases h4 with e | e
    · exact .inl e
    · exact .inr ⟨_, e, Nat.le_refl _⟩
theorem wp_pushP {P : Program} {W : World} {ops : Array Oper} {rest : List Oper} {o : Oper} {a : Act} {Q : Exit → Act → World → Prop} (hgd : o.guard = none) (s x : Operand) (t : TypeId)
    (ho : o.op = .call { callee := .builtin .append, args := #[s, x], argTypes := #[t, t] })
    (base : Nat) (e : TypeId) (i : TypeInfo) (ht : P.underlying t = some (.slice e)) (hi : P.info? e = some i) (hz : i.zero = some (.agg #[.int .i64 0, .int .i64 0])) (hsize : i.size = 2) (hby : i.bytes = 16)
    (v : Value) (O : List (Int × Int)) (hs : a.eval s = v) (hown : W.ownsRow base e 2 v O.length (flat2 O)) (x0 x1 : Int) (g : Nat) (hx : a.eval x = .slice (some ⟨g, 0, none⟩) 1 1) (hg : W.heap.size = g) (O' : List (Int × Int)) (hO' : Hid (O ++ [(x0, x1)] = O'))
    (hO : O.length ≤ 1099511627776) (hbase : base ≤ W.heap.size)
    (h : ∀ v' w', w'.ownsRow base e 2 v' O'.length (flat2 O') → Grew W w' v v' → wpList P ops Q rest (a.put o.dst v') w') : wpList P ops Q (o :: rest) a (W.alloc (.cells #[.int .i64 x0, .int .i64 x1] e)) :=
  wpList_plain hgd fun _ hK => op_pushP s x t ho base e i ht hi hz hsize hby v O hs hown x0 x1 g hx hg O' hO' hO hbase fun v' w' h2 h3 => hK _ _ (h v' w' h2 h3)

theorem flat2_take (T : List (Int × Int)) (i : Nat) : (flat2 T).take (i * 2) = flat2 (T.take i) := by
  induction T generalizing i with
  | nil => simp [flat2]
  | cons x T ih =>
    cases i with
    | zero => simp [flat2]
    | succ i =>
      rw [flat2_cons, List.take_succ_cons, flat2_cons, show (i + 1) * 2 = i * 2 + 1 + 1 by omega, List.take_succ_cons, List.take_succ_cons, ih]
theorem flat2_drop (T : List (Int × Int)) (i : Nat) : (flat2 T).drop (i * 2) = flat2 (T.drop i) := by
  induction T generalizing i with
  | nil => simp [flat2]
  | cons x T ih =>
    cases i with
    | zero => simp
    | succ i =>
      rw [flat2_cons, List.drop_succ_cons, show (i + 1) * 2 = i * 2 + 1 + 1 by omega, List.drop_succ_cons, List.drop_succ_cons, ih]
/-- a row's cells behind two stores, from the middle on. -/
theorem row_ins (T : List (Int × Int)) (x : Int × Int) (i : Nat) (hi : i < T.length) (cur : Array Value) (h : ∀ j, j < (T.length + 1) * 2 → cur[j]? = if j < i * 2 then (flat2 T)[j]? else if j < (i + 1) * 2 then ([.int .i64 x.1, .int .i64 x.2] : List Value)[j - i * 2]? else (flat2 T)[j - 2]?) :
    cur.toList.take ((T.length + 1) * 2) = flat2 (T.take i ++ x :: T.drop i) := by
  have hlt : (flat2 T).length = T.length * 2 := flat2_length T
  have e : flat2 (T.take i ++ x :: T.drop i) = (flat2 T).take (i * 2) ++ ([.int .i64 x.1, .int .i64 x.2] ++ (flat2 T).drop (i * 2)) := by
    rw [flat2_append, flat2_take, flat2_drop]; rfl
  rw [e]
  apply List.ext_getElem?
  intro j
  have h1 : ((flat2 T).take (i * 2)).length = i * 2 := by rw [List.length_take]; omega
  by_cases hj : j < (T.length + 1) * 2
  · rw [List.getElem?_take, if_pos hj, Array.getElem?_toList, h j hj]
    by_cases h2 : j < i * 2
    · rw [if_pos h2, List.getElem?_append_left (by omega), List.getElem?_take, if_pos h2]
    · rw [if_neg h2, List.getElem?_append_right (by omega), h1]
      by_cases h3 : j < (i + 1) * 2
      · rw [if_pos h3, List.getElem?_append_left (by simp; omega)]
      · rw [if_neg h3, List.getElem?_append_right (by simp; omega), List.getElem?_drop]
        congr 1
        simp
        omega
  · rw [List.getElem?_take, if_neg hj, List.getElem?_eq_none]
    simp only [List.length_append, h1, List.length_cons, List.length_nil, List.length_drop, hlt]
    omega
set_option maxHeartbeats 2000000 in
/-- slices.Insert of one prefix into a row of one's own, ahead of place i. -/
theorem insP_own (T : List (Int × Int)) (x : Int × Int) (v : Value) (S i g : Nat) (w : World) (ho : w.ownsRow S 65 2 v T.length (flat2 T)) (hi : i < T.length) (hl : T.length ≤ 1000000) (hg : w.heap[g]? = some (.cells #[.int .i64 x.1, .int .i64 x.2] 65 (0, 0))) (hne : v.ownBlock ≠ some g) (hS : S ≤ w.heap.size) :
    Calls Tryz.prog 172 #[v, .int .i64 (i : Int), .slice (some ⟨g, 0, none⟩) 1 1] w fun r w' => ∃ v', r = .returned v' ∧ w'.ownsRow S 65 2 v' (T.take i ++ x :: T.drop i).length (flat2 (T.take i ++ x :: T.drop i)) ∧ Grew w w' v v' := by
  have hlen : (T.take i ++ x :: T.drop i).length = T.length + 1 := by simp; omega
  rcases ho.2 with ⟨-, e⟩ | ⟨b, c, cur, rfl, hb, hh, hnc, hcm, hcs, htake⟩
  · omega
  have hne' : b ≠ g := fun e => hne (by rw [e]; rfl)
  have hgl : g < w.heap.size := (Array.getElem?_eq_some_iff.1 hg).1
  have hbl : b < w.heap.size := (Array.getElem?_eq_some_iff.1 hh).1
  have hcell : ∀ j u, (flat2 T)[j]? = some u → w.cell? ⟨b, j, none⟩ = some u := fun j u hj => by
    have := ho.cells (g := b) rfl j u hj
    rwa [Addr.add_lit, Nat.zero_add] at this
  have hvs : ∀ j u, ([.int .i64 x.1, .int .i64 x.2] : List Value)[j]? = some u → w.cell? ⟨g, j, none⟩ = some u := fun j u hj => by
    simp [World.cell?, hg]; simpa using hj
  have h1v : ∀ u ∈ ([.int .i64 x.1, .int .i64 x.2] : List Value), u.oneCell' = true := by intro u hu; simp at hu; rcases hu with rfl | rfl <;> rfl
  have hrow : ∀ j, j < T.length * 2 → cur[j]? = (flat2 T)[j]? := fun j hj => by
    have e : (cur.toList.take (T.length * 2))[j]? = (flat2 T)[j]? := by rw [htake]
    rw [List.getElem?_take, if_pos hj] at e
    simpa using e
  unfold maxLen at hcm
  by_cases hroom : T.length + 1 ≤ c
  · refine (insP_shift b T.length c i g (flat2 T) [.int .i64 x.1, .int .i64 x.2] w hi hroom (by omega) (Ne.symm hne') (flat2_length T) rfl hcell (fun j hj => by
      have : j < cur.size := by omega
      simp [World.cell?, hh, this]) (fun j hj => by simp [World.frozen?, hh]) hvs (flat2_one' T) h1v 65 65 2 cur.size (by simp [World.shape?, hg]) (by simp [World.shape?, hh]) (by omega) (by simp [World.frozen?, hg]) (by simp [World.frozen?, hg])).mono ?_
    rintro e w' ⟨rfl, rfl⟩
    obtain ⟨cur1, a1, b1, c1, d1⟩ := heap_setCells b _ ((flat2 T).drop (i * 2)) ((i + 1) * 2) w.drew cur hh
    obtain ⟨cur2, a2, b2, c2, d2⟩ := heap_setCells b _ [.int .i64 x.1, .int .i64 x.2] (i * 2) _ cur1 a1
    have hdl : ((flat2 T).drop (i * 2)).length = (T.length - i) * 2 := by rw [List.length_drop, flat2_length]; omega
    refine ⟨_, rfl, ⟨by rw [flat2_length, hlen], .inr ⟨b, c, cur2, by rw [hlen], hb, a2, by omega, by unfold maxLen; omega, by omega, ?_⟩⟩, ?_⟩
    · rw [hlen]
      refine row_ins T x i hi cur2 fun j hj => ?_
      by_cases h2 : j < i * 2
      · rw [if_pos h2, d2 j (.inl h2), d1 j (.inl (by omega)), hrow j (by omega)]
      · rw [if_neg h2]
        by_cases h3 : j < (i + 1) * 2
        · rw [if_pos h3]
          obtain ⟨k, rfl⟩ : ∃ k, j = i * 2 + k := ⟨j - i * 2, by omega⟩
          rw [c2 k (by simp; omega) (by omega), show i * 2 + k - i * 2 = k by omega, List.getElem?_eq_getElem (by simp; omega)]
        · rw [if_neg h3, d2 j (.inr (by simp; omega))]
          obtain ⟨k, rfl⟩ : ∃ k, j = (i + 1) * 2 + k := ⟨j - (i + 1) * 2, by omega⟩
          rw [c1 k (by omega) (by omega), show (i + 1) * 2 + k - 2 = i * 2 + k by omega, ← List.getElem?_drop, List.getElem?_eq_getElem (by omega)]
    · have hbb := below_setCells (Nat.le_refl b) ([.int .i64 x.1, .int .i64 x.2] : List Value) (i * 2) (below_setCells (Nat.le_refl b) ((flat2 T).drop (i * 2)) ((i + 1) * 2) (Below.refl b w).drew)
      have hother : ∀ k, k ≠ b → ((w.drew.setCells b ((i + 1) * 2) ((flat2 T).drop (i * 2))).setCells b (i * 2) [.int .i64 x.1, .int .i64 x.2]).heap[k]? = w.heap[k]? := fun k hk => by
        rw [setCells_other b _ _ _ k hk, setCells_other b _ _ _ k hk]; rfl
      exact ⟨hbb.os, hbb.tape, hbb.output, hbb.size, fun k _ hk => hother k (fun e => hk (by rw [e]; rfl)), .inl rfl⟩
  · refine (insP_grow b T.length c i g (flat2 T) [.int .i64 x.1, .int .i64 x.2] w hi hnc (by omega) hl (flat2_length T) rfl hcell hvs (flat2_one' T) h1v).mono ?_
    rintro e w' ⟨rfl, rfl⟩
    have hc := grownCap_ge w (T.length + 1) c 65
    have hm := grownCap_le_maxLen w (T.length + 1) c 65 (by unfold maxLen; omega)
    obtain ⟨K, hK⟩ : ∃ K, grownCap w (T.length + 1) c 65 = K := ⟨_, rfl⟩
    rw [hK] at hc hm
    obtain ⟨C0, hC0⟩ : ∃ C0, (((flat2 T).take (i * 2)).toArray ++ Builtin.zeroCells (Value.agg #[.int .i64 0, .int .i64 0]).cells (T.length + 1 - i) ++ Builtin.zeroCells (Value.agg #[.int .i64 0, .int .i64 0]).cells (K - (T.length + 1))) = C0 := ⟨_, rfl⟩
    have hC0s : C0.size = K * 2 := by
      rw [← hC0]
      simp only [Array.size_append, size_zeroCells, List.size_toArray, List.length_take, flat2_length, show (Value.agg #[.int .i64 0, .int .i64 0]).cells.size = 2 from rfl]
      omega
    have hC0e : ∀ j, j < i * 2 → C0[j]? = (flat2 T)[j]? := fun j hj => by
      have h5 : j < ((flat2 T).take (i * 2)).length := by rw [List.length_take, flat2_length]; omega
      rw [← hC0, Array.getElem?_append_left (by simp only [Array.size_append, List.size_toArray]; omega), Array.getElem?_append_left (by simpa using h5)]
      rw [List.getElem?_toArray, List.getElem?_take, if_pos hj]
    rw [hK, hC0]
    have hh0 : (w.drew.alloc (.cells C0 65)).heap[w.heap.size]? = some (.cells C0 65 (0, 0)) := Go.heap_alloc_new w.drew _
    obtain ⟨cur1, a1, b1, c1, d1⟩ := heap_setCells w.heap.size _ ([.int .i64 x.1, .int .i64 x.2] : List Value) (i * 2) _ C0 hh0
    obtain ⟨cur2, a2, b2, c2, d2⟩ := heap_setCells w.heap.size _ ((flat2 T).drop (i * 2)) ((i + 1) * 2) ((w.drew.alloc (.cells C0 65)).setCells w.heap.size (i * 2) [.int .i64 x.1, .int .i64 x.2]).drew cur1 a1
    have hdl : ((flat2 T).drop (i * 2)).length = (T.length - i) * 2 := by rw [List.length_drop, flat2_length]; omega
    refine ⟨_, rfl, ⟨by rw [flat2_length, hlen], .inr ⟨w.heap.size, K, cur2, by rw [hlen], hS, a2, by omega, hm, by omega, ?_⟩⟩, ?_⟩
    · rw [hlen]
      refine row_ins T x i hi cur2 fun j hj => ?_
      by_cases h2 : j < i * 2
      · rw [if_pos h2, d2 j (.inl (by omega)), d1 j (.inl h2), hC0e j h2]
      · rw [if_neg h2]
        by_cases h3 : j < (i + 1) * 2
        · rw [if_pos h3, d2 j (.inl (by omega))]
          obtain ⟨k, rfl⟩ : ∃ k, j = i * 2 + k := ⟨j - i * 2, by omega⟩
          rw [c1 k (by simp; omega) (by omega), show i * 2 + k - i * 2 = k by omega, List.getElem?_eq_getElem (by simp; omega)]
        · rw [if_neg h3]
          obtain ⟨k, rfl⟩ : ∃ k, j = (i + 1) * 2 + k := ⟨j - (i + 1) * 2, by omega⟩
          rw [c2 k (by omega) (by omega), show (i + 1) * 2 + k - 2 = i * 2 + k by omega, ← List.getElem?_drop, List.getElem?_eq_getElem (by omega)]
    · have hbb := below_setCells (Nat.le_refl w.heap.size) ((flat2 T).drop (i * 2)) ((i + 1) * 2) (below_setCells (Nat.le_refl w.heap.size) ([.int .i64 x.1, .int .i64 x.2] : List Value) (i * 2) ((Below.refl w.heap.size w).drew.alloc (Nat.le_refl _) (.cells C0 65))).drew
      exact ⟨hbb.os, hbb.tape, hbb.output, hbb.size, fun k hk _ => hbb.block k hk, .inr ⟨_, rfl, Nat.le_refl _⟩⟩
theorem enters_wd1 : ∀ args w, (callFunc 171 args).run Tryz.prog w = .ok (.enter 171 args) w := fun args w => by kernel_rfl
set_option linter.unusedVariables false in
set_option maxHeartbeats 1000000 in
/-- withDrop's question: is p ahead of it? -/
theorem wd1_any (p0 p1 q0 q1 : Int) (B : Nat) (E : Nat → Addr) (m : Int) (w : World) (hE : WireEnv w E m) (h0 : w.cell? ⟨B, 0, none⟩ = some (.int .i64 p0)) (h1 : w.cell? ⟨B, 1, none⟩ = some (.int .i64 p1)) :
    Calls Tryz.prog 171 #[.agg #[.int .i64 q0, .int .i64 q1], .pointer (some ⟨B, 0, none⟩)] w fun r w' => r = .returned (.bool (lessB p0 p1 q0 q1)) ∧ Below w.heap.size w w' := by
  have hb := below_alloc w (.cells #[.int .i64 q0, .int .i64 q1] 65)
  have c0 := cell_kept hb h0
  have c1 := cell_kept hb h1
  have d0 : (w.alloc (.cells #[.int .i64 q0, .int .i64 q1] 65)).cell? ⟨w.heap.size, 0, none⟩ = some (.int .i64 q0) := by simp
  have d1 : (w.alloc (.cells #[.int .i64 q0, .int .i64 q1] 65)).cell? ⟨w.heap.size, 1, none⟩ = some (.int .i64 q1) := by simp
  obtain ⟨HL⟩ : Nonempty (Hid (Calls _ _ _ _ _)) := ⟨less_any p0 p1 q0 q1 (E 0) (E 1) (E 2) (w.alloc (.cells #[.int .i64 q0, .int .i64 q1] 65)) (hE.below hb).errs⟩
  obtain ⟨W, hW⟩ : ∃ W, Hid (w.alloc (.cells #[.int .i64 q0, .int .i64 q1] 65) = W) := ⟨_, show _ = _ from rfl⟩
  obtain ⟨HB⟩ : Nonempty (Hid (Below w.heap.size w W)) := ⟨by rw [← hW.out]; exact hb⟩
  rw [show w.alloc (.cells #[.int .i64 q0, .int .i64 q1] 65) = W from hW.out] at HL
  clear hE hb h0 h1
  go_enter Tryz.func171, Tryz.ntmps171
  go_wp2_with fail
  rw [show w.alloc (.cells #[.int .i64 q0, .int .i64 q1] 65) = W from hW.out]
  refine HL.out.mono ?_
  rintro e w1 ⟨rfl, hb1⟩
  obtain ⟨HB1⟩ : Nonempty (Hid (Below w.heap.size w w1)) := ⟨HB.out.trans (hb1.mono HB.out.size)⟩
  clear hb1
  go_wp2_with fail
  go_ret
  exact ⟨rfl, HB1.out⟩

theorem insN_at (p : Int × Int) (L : List (Int × Int)) (k : Nat) (hk : k < L.length) (h : ∀ j (hj : j < L.length), j < k → lessB p.1 p.2 L[j].1 L[j].2 = false) (h1 : lessB p.1 p.2 L[k].1 L[k].2 = true) : insP p L = L.take k ++ p :: L.drop k := by
  induction L generalizing k with
  | nil => simp at hk
  | cons x L ih =>
    unfold insP
    cases k with
    | zero =>
      simp only [List.getElem_cons_zero] at h1
      rw [if_pos h1]; rfl
    | succ k =>
      have h0 : lessB p.1 p.2 x.1 x.2 = false := h 0 (by simp) (by omega)
      rw [if_neg (by simp [h0]), ih k (by simpa using hk) (fun j hj hjk => h (j + 1) (by simp; omega) (by omega)) h1]
      rfl
theorem insN_end (p : Int × Int) (L : List (Int × Int)) (h : ∀ j (hj : j < L.length), lessB p.1 p.2 L[j].1 L[j].2 = false) : insP p L = L ++ [p] := by
  induction L with
  | nil => rfl
  | cons x L ih =>
    unfold insP
    have h0 : lessB p.1 p.2 x.1 x.2 = false := h 0 (by simp)
    rw [if_neg (by simp [h0]), ih (fun j hj => h (j + 1) (by simp; omega))]
    rfl
set_option linter.unusedVariables false in
set_option maxRecDepth 100000 in
set_option maxHeartbeats 4000000 in
theorem indexAbove_any (L : List (Int × Int)) (p : Option Addr) (c : Nat) (p0 p1 : Int) (B : Nat) (E : Nat → Addr) (m : Int) (w : World) (hL : Pairs w p L) (hE : WireEnv w E m) (h0 : w.cell? ⟨B, 0, none⟩ = some (.int .i64 p0)) (h1 : w.cell? ⟨B, 1, none⟩ = some (.int .i64 p1)) (hl : L.length ≤ 1099511627776) :
    Calls Tryz.prog 170 #[.slice p L.length c, .func (.func 171) #[] #[.pointer (some ⟨B, 0, none⟩)]] w fun e w' => ((∃ k : Nat, e = .returned (.int .i64 (k : Int)) ∧ k < L.length ∧ insP (p0, p1) L = L.take k ++ (p0, p1) :: L.drop k) ∨ (e = .returned (.int .i64 (-1)) ∧ insP (p0, p1) L = L ++ [(p0, p1)])) ∧ Below w.heap.size w w' := by
  have heg := enters_wd1
  obtain ⟨HL⟩ : Nonempty (Hid (Pairs w p L ∧ WireEnv w E m ∧ w.cell? ⟨B, 0, none⟩ = some (.int .i64 p0) ∧ w.cell? ⟨B, 1, none⟩ = some (.int .i64 p1))) := ⟨⟨hL, hE, h0, h1⟩⟩
  clear hL hE h0 h1
  go_enter Tryz.func170, Tryz.ntmps170
  go_wp2
  go_loopw [8] (fun z wr => ∃ k : Nat, z = .int .i64 k ∧ k ≤ L.length ∧ Hid (∀ j (hj : j < L.length), j < k → lessB p0 p1 L[j].1 L[j].2 = false) ∧ Below w.heap.size w wr) (fun z _ => L.length - (intOf z).toNat)
  case atStart => exact ⟨0, rfl, Nat.zero_le _, fun j _ h => by omega, Below.refl _ _⟩
  case round =>
    obtain ⟨k, rfl, hk, HN, hb⟩ := hrel
    by_cases hlt : k < L.length
    · obtain ⟨b0, o0, rfl, c0, c1⟩ := HL.out.1 k hlt
      have q3 : (k : Int) < L.length := by omega
      have c0' := cell_kept hb c0
      have c1' := cell_kept hb c1
      obtain ⟨HC⟩ : Nonempty (Hid (Calls _ _ _ _ _)) := ⟨wd1_any p0 p1 L[k].1 L[k].2 B E m wr (HL.out.2.1.below hb) (cell_kept hb HL.out.2.2.1) (cell_kept hb HL.out.2.2.2)⟩
      obtain ⟨a, ha⟩ : ∃ a, Hid (L[k].1 = a) := ⟨_, show _ = _ from rfl⟩
      obtain ⟨n, hn⟩ : ∃ n, Hid (L[k].2 = n) := ⟨_, show _ = _ from rfl⟩
      obtain ⟨r, hr⟩ : ∃ r, Hid (lessB p0 p1 L[k].1 L[k].2 = r) := ⟨_, show _ = _ from rfl⟩
      rw [show lessB p0 p1 L[k].1 L[k].2 = r from hr.out] at HC
      rw [show L[k].1 = a from ha.out] at c0' HC
      rw [show L[k].2 = n from hn.out] at c1' HC
      clear c0 c1
      go_wp2_with fail
      refine HC.out.mono ?_
      rintro e w1 ⟨rfl, hb1⟩
      have hb2 := hb.trans (hb1.mono hb.size)
      cases r with
      | true =>
        obtain ⟨HT⟩ : Nonempty (Hid (insP (p0, p1) L = L.take k ++ (p0, p1) :: L.drop k)) := ⟨insN_at (p0, p1) L k hlt HN.out hr.out⟩
        clear HC hb hb1 c0' c1'
        go_wp2
        go_ret
        exact ⟨.inl ⟨k, rfl, hlt, HT.out⟩, hb2⟩
      | false =>
        clear HC hb hb1 c0' c1'
        go_wp2
        go_roundw
        case rel =>
          refine ⟨k + 1, by go_num, by omega, fun j hj hjk => ?_, hb2⟩
          by_cases he : j = k
          · subst he; exact hr.out
          · exact HN.out j hj (by omega)
        case measure => simp [intOf]; omega
    · obtain ⟨HT⟩ : Nonempty (Hid (insP (p0, p1) L = L ++ [(p0, p1)])) := ⟨insN_end (p0, p1) L (fun j hj => HN.out j hj (by omega))⟩
      go_wp2
      go_ret
      exact ⟨.inr ⟨rfl, HT.out⟩, hb⟩
end Go.Proofs.YtbfdgflbflajdaaGreatDoor
