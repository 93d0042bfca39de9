/-
  slices.Insert of one whole number into a row of one's own: what it returns.
-/
import Derived.Test.YtbfdgflbflajdaaGreatDoorHC
import Derived.Test.YtbfdgflbflajdaaGreatDoorShelf
namespace Go.Proofs.YtbfdgflbflajdaaGreatDoor
open Go.RowKit

theorem own_mk {w : World} {base G n cap : Nat} {cur : Array Value} {L : List Int} (h : w.heap[G]? = some (.cells cur 3 (0, 0))) (hb : base ≤ G) (hn : n ≤ cap) (hm : cap ≤ maxLen) (hs : cur.size = cap) (hL : L.length = n) (hc : ∀ j (h : j < L.length), cur[j]? = some (intV L[j])) :
    w.ownsRow base 3 1 (.slice (some ⟨G, 0, none⟩) n cap) n (L.map intV) := by
  refine ⟨by simp [hL], .inr ⟨G, cap, cur, rfl, hb, h, hn, hm, by omega, ?_⟩⟩
  apply List.ext_getElem (by simp; omega)
  intro j h1 h2
  have hj : j < L.length := by simpa using h2
  have := hc j hj
  rw [List.getElem_take]
  simp only [List.getElem_map]
  have hjs : j < cur.size := by omega
  rw [Array.getElem?_eq_getElem hjs] at this
  simpa using this
theorem ins_at (T : List Int) (x : Int) (i : Nat) (hi : i ≤ T.length) (j : Nat) (h : j < (T.take i ++ x :: T.drop i).length) : (T.take i ++ x :: T.drop i)[j] = if j < i then T.getD j 0 else if j = i then x else T.getD (j - 1) 0 := by
  have hl : j < T.length + 1 := by simp at h; omega
  have hti : (T.take i).length = i := by simp; omega
  by_cases h1 : j < i
  · rw [if_pos h1, List.getElem_append_left (by omega), List.getElem_take]
    simp [List.getD, show j < T.length by omega]
  · rw [if_neg h1, List.getElem_append_right (by omega)]
    by_cases h2 : j = i
    · subst h2; simp [hti]
    · rw [if_neg h2]
      obtain ⟨k, rfl⟩ : ∃ k, j = i + 1 + k := ⟨j - i - 1, by omega⟩
      simp only [hti, show i + 1 + k - i = k + 1 by omega, List.getElem_cons_succ, List.getElem_drop]
      simp [List.getD, show i + k < T.length by omega, show i + 1 + k - 1 = i + k by omega]
theorem ins_len (T : List Int) (x : Int) (i : Nat) (hi : i ≤ T.length) : (T.take i ++ x :: T.drop i).length = T.length + 1 := by simp; omega
theorem map_at {T : List Int} {j : Nat} {v : Value} (h : (T.map intV)[j]? = some v) : j < T.length ∧ v = intV (T.getD j 0) := by
  have hj : j < T.length := by have := (List.getElem?_eq_some_iff.1 h).1; simpa using this
  refine ⟨hj, ?_⟩
  simp [hj] at h
  rw [← h]; simp [List.getD, hj]
theorem one_at {x : Int} {j : Nat} {v : Value} (h : [intV x][j]? = some v) : j = 0 ∧ v = intV x := by
  match j, h with
  | 0, h => simp at h; exact ⟨rfl, h.symm⟩
theorem row_at {cur : Array Value} {T : List Int} (h : cur.toList.take (T.length * 1) = T.map intV) (j : Nat) (hj : j < T.length) : cur[j]? = some (intV (T.getD j 0)) := by
  have e : (cur.toList.take (T.length * 1))[j]? = (T.map intV)[j]? := by rw [h]
  rw [List.getElem?_take, if_pos (by omega)] at e
  simp [hj] at e
  rw [e]; simp [List.getD, hj]
theorem setCells_other (b c : Nat) (hc : c ≠ b) : ∀ (vs : List Value) (o : Nat) (w : World), (w.setCells b o vs).heap[c]? = w.heap[c]?
  | [], _, _ => rfl
  | v :: r, o, w => by
    rw [World.setCells, setCells_other b c hc r (o + 1) _]
    exact Below.heap_setCell _ _ _ _ (by simpa using hc)
theorem alloc_other (w : World) (o : Obj) (b : Nat) (hb : b < w.heap.size) : (w.alloc o).heap[b]? = w.heap[b]? := (below_alloc w o).block b hb
set_option linter.unusedSimpArgs false in
set_option maxHeartbeats 2000000 in
/-- slices.Insert of one number into a row of one's own. -/
theorem insert_own (T : List Int) (x : Int) (q : Option Addr) (cq S i g : Nat) (w : World) (ho : w.ownsRow S 3 1 (.slice q T.length cq) T.length (T.map intV)) (hi : i ≤ T.length) (hl : T.length ≤ 1000) (hg : w.heap[g]? = some (.cells #[.int .i64 x] 3 (0, 0))) (hne : ∀ b o, q = some ⟨b, o, none⟩ → b ≠ g) (hS : S ≤ w.heap.size) :
    Calls Tryz.prog 52 #[.slice q T.length cq, .int .i64 (i : Int), .slice (some ⟨g, 0, none⟩) 1 1] w fun r w' => (∃ v, r = .returned v ∧ w'.ownsRow S 3 1 v (T.length + 1) ((T.take i ++ x :: T.drop i).map intV) ∧ ∀ b, v.ownBlock = some b → q = some ⟨b, 0, none⟩ ∨ w.heap.size ≤ b) ∧ Below S w w' ∧ ∀ b, b < w.heap.size → q ≠ some ⟨b, 0, none⟩ → w'.heap[b]? = w.heap[b]? := by
  have gx : w.cell? ⟨g, 0, none⟩ = some (intV x) := by simp [World.cell?, hg, intV]
  have hvs : ∀ j v, [intV x][j]? = some v → w.cell? ⟨g, 0 + j, none⟩ = some v := fun j v h => by
    obtain ⟨rfl, rfl⟩ := one_at h; exact gx
  have h1v : ∀ v ∈ [intV x], v.oneCell' = true := fun v hv => by simp at hv; subst hv; rfl
  have hlen := ins_len T x i hi
  rcases ho.2 with ⟨hv, h0⟩ | ⟨gq, cap, cur, hv, hb, hgq, h1, h2, h3, h4⟩
  · simp only [Value.slice.injEq] at hv
    obtain ⟨rfl, -, rfl⟩ := hv
    have e1 : T = [] := List.eq_nil_of_length_eq_zero h0
    subst e1
    obtain rfl : i = 0 := by simpa using hi
    have := Any2.slices_Insert_int_end_grow Tryz.insInt none 0 0 g 0 1 1 [] [intV x] w (by omega) (by omega) (by omega) (by omega) rfl rfl (fun _ => rfl) (fun a h => by simp at h) hvs h1v
    refine Calls.mono this ?_
    rintro e w' ⟨rfl, rfl⟩
    rw [show Tryz.insInt_ren.t 3 = 3 from rfl]
    refine ⟨⟨_, rfl, ?_, fun b e => .inr (by cases e; exact Nat.le_refl _)⟩, ((Below.refl S w).drew.alloc (by simpa using hS) _), fun b hb _ => alloc_other w.drew _ b hb⟩
    have hc := grownCap_ge w (0 + 1) 0 3
    have hm := grownCap_le_maxLen w (0 + 1) 0 3 (by unfold maxLen; omega)
    refine own_mk (L := [x]) (Go.heap_alloc_new w.drew _) (by simpa using hS) hc hm (by simp only [Array.size_append, size_zeroCells, List.size_toArray, List.length_append, List.length_nil, List.length_cons, show (Value.int IntKind.i64 0).cells.size = 1 from rfl]; omega) rfl (fun j hj => ?_)
    match j, hj with
    | 0, _ => rw [Array.getElem?_append_left (by simp)]; simp [intV]
  · simp only [Value.slice.injEq, true_and] at hv
    obtain ⟨rfl, rfl⟩ := hv
    rw [Nat.mul_one] at h3
    have hrow := row_at h4
    have hcs : ∀ j v, (T.map intV)[j]? = some v → w.cell? ⟨gq, 0 + j, none⟩ = some v := fun j v h => by
      obtain ⟨hj, rfl⟩ := map_at h
      rw [Nat.zero_add]
      simp [World.cell?, hgq, hrow j hj]
    have hgne := hne gq 0 rfl
    have hgl : gq < w.heap.size := (Array.getElem?_eq_some_iff.1 hgq).1
    by_cases hin : i = T.length
    · subst hin
      by_cases hroom : T.length + 1 ≤ cq
      · have := Any2.slices_Insert_int_end_room Tryz.insInt gq 0 T.length cq g 0 1 1 [intV x] w (by omega) hroom (by unfold maxLen at h2; omega) rfl (fun j hj => by
          have : 0 + T.length + j < cur.size := by omega
          simp [World.cell?, hgq]; omega) (fun j hj => by simp [World.frozen?, hgq]) hvs h1v
        refine Calls.mono this ?_
        rintro e w' ⟨rfl, rfl⟩
        obtain ⟨cur', a, b', c, d⟩ := heap_setCells gq _ [intV x] (0 + T.length) w cur hgq
        refine ⟨⟨_, rfl, own_mk a hb hroom h2 (by omega) hlen (fun j hj => ?_), fun b e => .inl (by cases e; rfl)⟩, below_setCells hb _ _ (Below.refl _ _), fun b _ hq => setCells_other gq b (fun h => hq (by rw [h])) _ _ _⟩
        rw [ins_at T x _ (Nat.le_refl _) j hj]
        by_cases hj1 : j < T.length
        · rw [if_pos hj1, d j (by omega)]; exact hrow j hj1
        · have : j = 0 + T.length + 0 := by omega
          subst this
          rw [c 0 (by simp) (by omega)]
          simp
      · have := Any2.slices_Insert_int_end_grow Tryz.insInt (some ⟨gq, 0, none⟩) T.length cq g 0 1 1 (T.map intV) [intV x] w (by omega) h1 (by omega) (by omega) (by simp) rfl (fun h => by simp at h) (fun a ha j v h => by
          obtain rfl : (⟨gq, 0, none⟩ : Addr) = a := by simpa using ha
          rw [Addr.add_lit]; exact hcs j v h) hvs h1v
        refine Calls.mono this ?_
        rintro e w' ⟨rfl, rfl⟩
        rw [show Tryz.insInt_ren.t 3 = 3 from rfl]
        have hc := grownCap_ge w (T.length + 1) cq 3
        have hm := grownCap_le_maxLen w (T.length + 1) cq 3 (by unfold maxLen; omega)
        refine ⟨⟨_, rfl, own_mk (Go.heap_alloc_new w.drew _) (by simpa using hS) hc hm (by simp only [Array.size_append, size_zeroCells, List.size_toArray, List.length_append, List.length_map, List.length_nil, List.length_cons, show (Value.int IntKind.i64 0).cells.size = 1 from rfl]; omega) hlen (fun j hj => ?_), fun b e => .inr (by cases e; exact Nat.le_refl _)⟩, (Below.refl S w).drew.alloc (by simpa using hS) _, fun b hb _ => alloc_other w.drew _ b hb⟩
        rw [ins_at T x _ (Nat.le_refl _) j hj]
        have hj0 : j < T.length + 1 := by omega
        rw [Array.getElem?_append_left (by simp; omega)]
        by_cases hj1 : j < T.length
        · rw [if_pos hj1]; simp [List.getElem?_append_left, hj1, List.getD]
        · have : j = T.length := by omega
          subst this
          simp [intV]
    · have hin' : i < T.length := by omega
      by_cases hroom : T.length + 1 ≤ cq
      · have := Any2.slices_Insert_int_shift Tryz.insInt gq 0 T.length cq i g 0 1 1 (T.map intV) [intV x] w hin' (by omega) hroom (by unfold maxLen at h2; omega) (Ne.symm hgne) (by simp) rfl hcs (fun j hj => by
          have : 0 + j < cur.size := by omega
          simp [World.cell?, hgq]; omega) (fun j hj => by simp [World.frozen?, hgq]) hvs (ints_one T) h1v 3 3 1 cq (by simp [World.shape?, hg]) (by simp [World.shape?, hgq, h3]) (by omega) (by simp [World.frozen?, hg]) (by simp [World.frozen?, hg])
        refine Calls.mono this ?_
        rintro e w' ⟨rfl, rfl⟩
        obtain ⟨cur1, a1, b1, c1, d1⟩ := heap_setCells gq _ ((T.map intV).drop i) (0 + (i + 1)) w.drew cur hgq
        obtain ⟨cur2, a2, b2, c2, d2⟩ := heap_setCells gq _ [intV x] (0 + i) _ cur1 a1
        refine ⟨⟨_, rfl, own_mk a2 hb hroom h2 (by omega) hlen (fun j hj => ?_), fun b e => .inl (by cases e; rfl)⟩, below_setCells hb _ _ (below_setCells hb _ _ (Below.refl _ _).drew), fun b _ hq => (setCells_other gq b (fun h => hq (by rw [h])) _ _ _).trans (setCells_other gq b (fun h => hq (by rw [h])) _ _ _)⟩
        rw [ins_at T x i hi j hj]
        by_cases hj1 : j < i
        · rw [if_pos hj1, d2 j (by omega), d1 j (by omega)]; exact hrow j (by omega)
        · rw [if_neg hj1]
          by_cases hj2 : j = i
          · subst hj2
            rw [if_pos rfl]
            have := c2 0 (by simp) (by omega)
            simpa using this
          · rw [if_neg hj2, d2 j (by simp; omega)]
            obtain ⟨k, rfl⟩ : ∃ k, j = 0 + (i + 1) + k := ⟨j - i - 1, by omega⟩
            have hk : i + k < T.length := by omega
            rw [c1 k (by simp; omega) (by omega)]
            simp [List.getD, hk, show 0 + (i + 1) + k - 1 = i + k by omega]
      · have := Any2.slices_Insert_int_grow Tryz.insInt gq 0 T.length cq i g 0 1 1 (T.map intV) [intV x] w hin' (by omega) h1 (by omega) (by omega) (by simp) rfl hcs hvs (ints_one T) h1v
        refine Calls.mono this ?_
        rintro e w' ⟨rfl, rfl⟩
        rw [show Tryz.insInt_ren.t 3 = 3 from rfl]
        have hc := grownCap_ge w (T.length + 1) cq 3
        have hm := grownCap_le_maxLen w (T.length + 1) cq 3 (by unfold maxLen; omega)
        obtain ⟨K, hK⟩ : ∃ K, grownCap w (T.length + 1) cq 3 = K := ⟨_, rfl⟩
        rw [hK] at hc hm
        obtain ⟨C0, hC0⟩ : ∃ C0, (((T.map intV).take i).toArray ++ Builtin.zeroCells (Value.int .i64 0).cells (T.length + 1 - i) ++ Builtin.zeroCells (Value.int .i64 0).cells (K - (T.length + 1))) = C0 := ⟨_, rfl⟩
        have hC0s : C0.size = K := by
          rw [← hC0]
          simp only [Array.size_append, size_zeroCells, List.size_toArray, List.length_take, List.length_map, show (Value.int IntKind.i64 0).cells.size = 1 from rfl]
          omega
        have hC0e : ∀ j, j < i → C0[j]? = some (intV (T.getD j 0)) := fun j hj => by
          rw [← hC0, Array.getElem?_append_left (by simp [size_zeroCells]; omega), Array.getElem?_append_left (by simp; omega)]
          simp [hj, List.getD, show j < T.length by omega]
        have hh0 : (w.alloc (.cells C0 3)).drew.heap[w.heap.size]? = some (.cells C0 3 (0, 0)) := Go.heap_alloc_new w _
        obtain ⟨cur1, a1, b1, c1, d1⟩ := heap_setCells w.heap.size _ [intV x] i _ C0 hh0
        obtain ⟨cur2, a2, b2, c2, d2⟩ := heap_setCells w.heap.size _ ((T.map intV).drop i) (i + 1) ((w.alloc (.cells C0 3)).drew.setCells w.heap.size i [intV x]).drew cur1 a1
        rw [hK]
        refine ⟨⟨_, rfl, own_mk (cur := cur2) (by rw [hC0]; exact a2) hS hc hm (by omega) hlen (fun j hj => ?_), fun b e => .inr (by cases e; exact Nat.le_refl _)⟩, below_setCells hS _ _ (below_setCells hS _ _ ((Below.refl S w).alloc hS _).drew).drew, fun b hb _ => (setCells_other _ b (Nat.ne_of_lt hb) _ _ _).trans ((setCells_other _ b (Nat.ne_of_lt hb) _ _ _).trans (alloc_other w _ b hb))⟩
        rw [ins_at T x i hi j hj]
        by_cases hj1 : j < i
        · rw [if_pos hj1, d2 j (by omega), d1 j (by omega)]; exact hC0e j hj1
        · rw [if_neg hj1]
          by_cases hj2 : j = i
          · subst hj2
            rw [if_pos rfl, d2 j (by omega)]
            have := c1 0 (by simp) (by omega)
            simpa using this
          · rw [if_neg hj2]
            obtain ⟨k, rfl⟩ : ∃ k, j = i + 1 + k := ⟨j - i - 1, by omega⟩
            have hk : i + k < T.length := by omega
            rw [c2 k (by simp; omega) (by omega)]
            simp [List.getD, hk, show i + 1 + k - 1 = i + k by omega]
end Go.Proofs.YtbfdgflbflajdaaGreatDoor
