/-
  package fib's with: a tree, and an entry in it.
-/
import Derived.Test.YthehpnhjfnenoabDoorFibTree
namespace Go.Proofs.YthehpnhjfnenoabDoor
open Go.RowKit

theorem in_drew {w : World} {T : FT} (h : T.In w) : T.In w.drew := in_same (w := w) T (fun _ _ => rfl) h
theorem nodup_node {b : Nat} {is : Bool} {e : Ent} {l r : FT} : (FT.node b is e l r).blocks.Nodup ↔ b ∉ l.blocks ∧ b ∉ r.blocks ∧ l.blocks.Nodup ∧ r.blocks.Nodup ∧ ∀ c ∈ l.blocks, c ∉ r.blocks := by
  simp only [FT.blocks, List.nodup_cons, List.mem_append, not_or, List.nodup_append]
  constructor
  · rintro ⟨⟨h1, h2⟩, h3, h4, h5⟩
    exact ⟨h1, h2, h3, h4, fun c hc hc' => h5 c hc c hc' rfl⟩
  · rintro ⟨h1, h2, h3, h4, h5⟩
    exact ⟨⟨h1, h2⟩, h3, h4, fun c hc c' hc' e => h5 c hc (e ▸ hc')⟩
/-- a kid that came back from a call is stored. -/
theorem store_right {W w1 : World} {b : Nat} {is : Bool} {e0 : Ent} {l r r' : FT} (hin : (FT.node b is e0 l r).In W) (hnd : (FT.node b is e0 l r).blocks.Nodup) (hin' : r'.In w1) (hnd' : r'.blocks.Nodup) (hs : ∀ c ∈ r'.blocks, c ∈ r.blocks ∨ W.heap.size ≤ c) (hk : Kept r.blocks W w1) :
    (FT.node b is e0 l r').In (w1.setCell ⟨b, 1, none⟩ r'.ptr) ∧ (FT.node b is e0 l r').blocks.Nodup ∧ (∀ c ∈ (FT.node b is e0 l r').blocks, c ∈ (FT.node b is e0 l r).blocks ∨ W.heap.size ≤ c) ∧ Kept (FT.node b is e0 l r).blocks W (w1.setCell ⟨b, 1, none⟩ r'.ptr) := by
  obtain ⟨n1, n2, n3, n4, n5⟩ := nodup_node.1 hnd
  have hlt := in_lt _ hin
  have hb : b < W.heap.size := hlt b (by simp [FT.blocks])
  obtain ⟨i1, i2, i3⟩ := hin
  have hb1 : b ∉ r'.blocks := fun h => by rcases hs b h with h | h; exact n2 h; omega
  refine ⟨⟨?_, ?_, ?_⟩, nodup_node.2 ⟨n1, hb1, n3, hnd', fun c hc hc' => ?_⟩, fun c hc => ?_, ?_⟩
  · exact node_set (hk.heap i1 n2) 1 _
  · exact in_same l (fun c hc => by have hne : c ≠ b := fun e => n1 (e ▸ hc); rw [heap_far _ _ _ _ _ hne, hk.block c (hlt c (by simp [FT.blocks, hc])) (n5 c hc)]) i2
  · exact in_same r' (fun c hc => heap_far _ _ _ _ _ (fun e => hb1 (e ▸ hc))) hin'
  · rcases hs c hc' with h | h
    · exact n5 c hc h
    · have := hlt c (by simp [FT.blocks, hc]); omega
  · simp only [FT.blocks, List.mem_cons, List.mem_append] at hc ⊢
    rcases hc with hc | hc | hc
    · exact .inl (.inl hc)
    · exact .inl (.inr (.inl hc))
    · rcases hs c hc with h | h
      · exact .inl (.inr (.inr h))
      · exact .inr h
  · exact (hk.mono (fun c hc => .inl (by simp [FT.blocks, hc]))).setCell (.inl (by simp [FT.blocks])) _
theorem store_left {W w1 : World} {b : Nat} {is : Bool} {e0 : Ent} {l r l' : FT} (hin : (FT.node b is e0 l r).In W) (hnd : (FT.node b is e0 l r).blocks.Nodup) (hin' : l'.In w1) (hnd' : l'.blocks.Nodup) (hs : ∀ c ∈ l'.blocks, c ∈ l.blocks ∨ W.heap.size ≤ c) (hk : Kept l.blocks W w1) :
    (FT.node b is e0 l' r).In (w1.setCell ⟨b, 0, none⟩ l'.ptr) ∧ (FT.node b is e0 l' r).blocks.Nodup ∧ (∀ c ∈ (FT.node b is e0 l' r).blocks, c ∈ (FT.node b is e0 l r).blocks ∨ W.heap.size ≤ c) ∧ Kept (FT.node b is e0 l r).blocks W (w1.setCell ⟨b, 0, none⟩ l'.ptr) := by
  obtain ⟨n1, n2, n3, n4, n5⟩ := nodup_node.1 hnd
  have hlt := in_lt _ hin
  have hb : b < W.heap.size := hlt b (by simp [FT.blocks])
  obtain ⟨i1, i2, i3⟩ := hin
  have hb1 : b ∉ l'.blocks := fun h => by rcases hs b h with h | h; exact n1 h; omega
  refine ⟨⟨?_, ?_, ?_⟩, nodup_node.2 ⟨hb1, n2, hnd', n4, fun c hc hc' => ?_⟩, fun c hc => ?_, ?_⟩
  · exact node_set (hk.heap i1 n1) 0 _
  · exact in_same l' (fun c hc => heap_far _ _ _ _ _ (fun e => hb1 (e ▸ hc))) hin'
  · exact in_same r (fun c hc => by have hne : c ≠ b := fun e => n2 (e ▸ hc); rw [heap_far _ _ _ _ _ hne, hk.block c (hlt c (by simp [FT.blocks, hc])) (fun h => n5 c h hc)]) i3
  · rcases hs c hc with h | h
    · exact n5 c h hc'
    · have := hlt c (by simp [FT.blocks, hc']); omega
  · simp only [FT.blocks, List.mem_cons, List.mem_append] at hc ⊢
    rcases hc with hc | hc | hc
    · exact .inl (.inl hc)
    · rcases hs c hc with h | h
      · exact .inl (.inr (.inl h))
      · exact .inr h
    · exact .inl (.inr (.inr hc))
  · exact (hk.mono (fun c hc => .inl (by simp [FT.blocks, hc]))).setCell (.inl (by simp [FT.blocks])) _
/-- a node's entry is stored. -/
theorem store_way {W : World} {b : Nat} {is x : Bool} {e0 : Ent} {l r : FT} (hin : (FT.node b is e0 l r).In W) (hnd : (FT.node b is e0 l r).blocks.Nodup) (a n h : Int) :
    (FT.node b x ((a, n), h) l r).In ((((W.setCell ⟨b, 2, none⟩ (.bool x)).setCell ⟨b, 3, none⟩ (.int .i64 a)).setCell ⟨b, 4, none⟩ (.int .i64 n)).setCell ⟨b, 5, none⟩ (.int .i64 h)) ∧
    Kept (FT.node b is e0 l r).blocks W ((((W.setCell ⟨b, 2, none⟩ (.bool x)).setCell ⟨b, 3, none⟩ (.int .i64 a)).setCell ⟨b, 4, none⟩ (.int .i64 n)).setCell ⟨b, 5, none⟩ (.int .i64 h)) := by
  obtain ⟨n1, n2, n3, n4, n5⟩ := nodup_node.1 hnd
  obtain ⟨i1, i2, i3⟩ := hin
  refine ⟨⟨?_, ?_, ?_⟩, ?_⟩
  · exact node_set (node_set (node_set (node_set i1 2 _) 3 _) 4 _) 5 _
  · exact in_same l (fun c hc => by have hne : c ≠ b := fun e => n1 (e ▸ hc); rw [heap_far _ _ _ _ _ hne, heap_far _ _ _ _ _ hne, heap_far _ _ _ _ _ hne, heap_far _ _ _ _ _ hne]) i2
  · exact in_same r (fun c hc => by have hne : c ≠ b := fun e => n2 (e ▸ hc); rw [heap_far _ _ _ _ _ hne, heap_far _ _ _ _ _ hne, heap_far _ _ _ _ _ hne, heap_far _ _ _ _ _ hne]) i3
  · have hm : ∀ k, (⟨b, k, none⟩ : Addr).block ∈ (FT.node b is e0 l r).blocks ∨ W.heap.size ≤ (⟨b, k, none⟩ : Addr).block := fun k => .inl (by simp [FT.blocks])
    exact ((((Kept.refl _ W).setCell (hm 2) _).setCell (hm 3) _).setCell (hm 4) _).setCell (hm 5) _

/-- what with hands back. -/
def WithPost (base n : Int) (T : FT) (e : Ent) (w : World) (r : Ending) (w' : World) : Prop :=
  ∃ T' : FT, r = .returned T'.ptr ∧ T'.Ok base n ∧ T'.In w' ∧ T'.blocks.Nodup ∧ (∀ b ∈ T'.blocks, b ∈ T.blocks ∨ w.heap.size ≤ b) ∧ Put1 T T' e ∧ Kept T.blocks w w'
/-- behind the first test: there is a node. -/
structure Mid (w W : World) (T N : FT) (base n ea en eh : Int) : Prop where
  ok : N.Ok base n
  inn : N.In W
  nd : N.blocks.Nodup
  sub : ∀ c ∈ N.blocks, c ∈ T.blocks ∨ w.heap.size ≤ c
  far : w.heap.size ∉ N.blocks
  ents : ∀ x, x ∈ N.ents ↔ x ∈ T.ents
  kept : Kept T.blocks w W
  c0 : W.cell? ⟨w.heap.size, 0, none⟩ = some (.int .i64 ea)
  c1 : W.cell? ⟨w.heap.size, 1, none⟩ = some (.int .i64 en)
  c2 : W.cell? ⟨w.heap.size, 2, none⟩ = some (.int .i64 eh)
theorem box3_at (W : World) (x y z : Value) (t : TypeId) : (W.alloc (.cells #[x, y, z] t)).cell? ⟨W.heap.size, 0, none⟩ = some x ∧ (W.alloc (.cells #[x, y, z] t)).cell? ⟨W.heap.size, 1, none⟩ = some y ∧ (W.alloc (.cells #[x, y, z] t)).cell? ⟨W.heap.size, 2, none⟩ = some z := by
  refine ⟨?_, ?_, ?_⟩ <;> (rw [World.cell?_alloc_at _ _ _ _ rfl]; rfl)
theorem mid_node {w : World} {T : FT} {base n ea en eh : Int} (hok : T.Ok base n) (hin : T.In w) (hnd : T.blocks.Nodup) : Mid w (w.alloc (.cells #[.int .i64 ea, .int .i64 en, .int .i64 eh] 44)) T T base n ea en eh := by
  obtain ⟨a0, a1, a2⟩ := box3_at w (.int .i64 ea) (.int .i64 en) (.int .i64 eh) 44
  exact ⟨hok, in_below (below_alloc _ _) hin, hnd, fun c hc => .inl hc, fun h => by have := in_lt T hin _ h; omega, fun _ => Iff.rfl, Kept.of_below (below_alloc _ _), a0, a1, a2⟩
theorem mid_nil {w : World} {base n ea en eh : Int} : Mid w ((w.alloc (.cells #[.int .i64 ea, .int .i64 en, .int .i64 eh] 44)).alloc (.cells #[.pointer none, .pointer none, .bool false, .int .i64 0, .int .i64 0, .int .i64 0] 103)) .nil (.node (w.heap.size + 1) false ((0, 0), 0) .nil .nil) base n ea en eh := by
  obtain ⟨a0, a1, a2⟩ := box3_at w (.int .i64 ea) (.int .i64 en) (.int .i64 eh) 44
  have hb := below_alloc (w.alloc (.cells #[.int .i64 ea, .int .i64 en, .int .i64 eh] 44)) (.cells #[.pointer none, .pointer none, .bool false, .int .i64 0, .int .i64 0, .int .i64 0] 103)
  have hh := Go.heap_alloc_new (w.alloc (.cells #[.int .i64 ea, .int .i64 en, .int .i64 eh] 44)) (.cells #[.pointer none, .pointer none, .bool false, .int .i64 0, .int .i64 0, .int .i64 0] 103)
  rw [show (w.alloc (.cells #[.int .i64 ea, .int .i64 en, .int .i64 eh] 44)).heap.size = w.heap.size + 1 by simp] at hh
  refine ⟨⟨fun h => (by cases h), fun _ => ⟨rfl, rfl⟩, trivial, trivial⟩, ⟨hh, trivial, trivial⟩, by simp [FT.blocks], fun c hc => .inr ?_, by simp [FT.blocks], fun x => by simp [FT.ents], Kept.of_below (((Below.refl _ _).alloc (Nat.le_refl _) _).alloc (by simp) _), cell_kept hb a0, cell_kept hb a1, cell_kept hb a2⟩
  simp [FT.blocks] at hc
  omega
theorem Mid.drewN {w W : World} {T N : FT} {base n ea en eh : Int} (m : Mid w W T N base n ea en eh) (k : Nat) : Mid w (W.drewN k) T N base n ea en eh :=
  have hb : Below W.heap.size W (W.drewN k) := below_drewN (Below.refl _ _) _
  ⟨m.ok, in_below hb m.inn, m.nd, m.sub, m.far, m.ents, m.kept.trans (G := []) (Kept.of_below hb) (by simp), cell_kept hb m.c0, cell_kept hb m.c1, cell_kept hb m.c2⟩
theorem Mid.drew {w W : World} {T N : FT} {base n ea en eh : Int} (m : Mid w W T N base n ea en eh) : Mid w W.drew T N base n ea en eh :=
  ⟨m.ok, in_drew m.inn, m.nd, m.sub, m.far, m.ents, m.kept.drew, m.c0, m.c1, m.c2⟩
theorem far_cell {w : World} {b k c j : Nat} {v u : Value} (h : w.cell? ⟨c, j, none⟩ = some u) (hne : b ≠ c) : (w.setCell ⟨b, k, none⟩ v).cell? ⟨c, j, none⟩ = some u := by
  rw [World.cell?_setCell_far _ _ _ _ hne]; exact h
theorem Mid.done {w W w' : World} {T N T' : FT} {base n ea en eh : Int} (m : Mid w W T N base n ea en eh) (hok : T'.Ok base n) (hin : T'.In w') (hnd : T'.blocks.Nodup) (hs : ∀ c ∈ T'.blocks, c ∈ N.blocks ∨ W.heap.size ≤ c) (hp : Put1 N T' ((ea, en), eh)) (hk : Kept N.blocks W w') : WithPost base n T ((ea, en), eh) w (.returned T'.ptr) w' := by
  have hz := m.kept.size
  refine ⟨T', rfl, hok, hin, hnd, fun c hc => ?_, fun x => ?_, m.kept.trans hk fun c hc => m.sub c hc⟩
  · rcases hs c hc with h | h
    · exact m.sub c h
    · exact .inr (by omega)
  · rw [hp x, m.ents x]

set_option linter.unusedVariables false in
set_option linter.unusedSimpArgs false in
set_option maxRecDepth 100000 in
set_option maxHeartbeats 1000000 in
theorem with_any (d : Nat) : ∀ (T : FT) (base n ea en eh : Int) (w : World), (32 - n).toNat = d → rt base n = true → T.Ok base n → T.In w → T.blocks.Nodup → rt ea en = true → hasB base n ea = true → n ≤ en →
    Calls Tryd.prog 41 #[T.ptr, .agg #[.int .i64 ea, .int .i64 en, .int .i64 eh], .int .i64 n] w (WithPost base n T ((ea, en), eh) w) := by
  induction d using Nat.strongRecOn with
  | ind d ih =>
  intro T base n ea en eh w hd hr hok hin hnd he hh hle
  obtain ⟨IH⟩ : Nonempty (Hid (∀ m, m < d → _)) := ⟨ih⟩
  clear ih
  obtain ⟨tp, htp⟩ := FT.ptr_pointer T
  rw [htp]
  obtain ⟨HT⟩ : Nonempty (Hid (T.Ok base n ∧ T.In w ∧ T.blocks.Nodup ∧ T.ptr = .pointer tp)) := ⟨⟨hok, hin, hnd, htp⟩⟩
  clear hok hin hnd htp
  go_enter Tryd.func41, Tryd.ntmps41
  go_upto_if 9 with fail
  go_cut [0] from 9 (fun s w' => ∃ (b : Nat) (is : Bool) (e0 : Ent) (l r : FT) (W : World), s = .pointer (some ⟨b, 0, none⟩) ∧ Hid (Mid w W T (.node b is e0 l r) base n ea en eh) ∧ W = w')
  case first =>
    as_aux_lemma =>
    cases T with
    | nil =>
      obtain rfl : none = tp := by have := HT.out.2.2.2; simpa [FT.ptr] using this
      obtain ⟨HM⟩ : Nonempty (Hid (Mid w _ _ _ base n ea en eh)) := ⟨mid_nil (w := w) (base := base) (n := n) (ea := ea) (en := en) (eh := eh)⟩
      go_wp2_with fail
      go_meet
      exact ⟨_, _, _, _, _, _, rfl, HM, rfl⟩
    | node b is e0 l r =>
      obtain rfl : some ⟨b, 0, none⟩ = tp := by have := HT.out.2.2.2; simpa [FT.ptr] using this
      obtain ⟨HM⟩ : Nonempty (Hid (Mid w _ _ _ base n ea en eh)) := ⟨mid_node (w := w) (base := base) (n := n) (ea := ea) (en := en) (eh := eh) HT.out.1 HT.out.2.1 HT.out.2.2.1⟩
      go_wp2_with fail
      go_meet
      exact ⟨_, _, _, _, _, _, rfl, HM, rfl⟩
  case rest =>
    as_aux_lemma =>
    obtain ⟨b, is, e0, l, r, W, rfl, HM, hW⟩ := hcut
    subst hW
    clear HT
    obtain ⟨sz, hsz⟩ : ∃ b, Hid (w.heap.size = b) := ⟨_, show _ = _ from rfl⟩
    rw [show w.heap.size = sz from hsz.out]
    obtain ⟨b0, b1, b2⟩ : W.cell? ⟨sz, 0, none⟩ = some (.int .i64 ea) ∧ W.cell? ⟨sz, 1, none⟩ = some (.int .i64 en) ∧ W.cell? ⟨sz, 2, none⟩ = some (.int .i64 eh) := by rw [← hsz.out]; exact ⟨HM.out.c0, HM.out.c1, HM.out.c2⟩
    by_cases hne : n = en
    · have hne' : (n == en) = true := by simpa using hne
      obtain ⟨HN⟩ : Nonempty (Hid (n = en)) := ⟨hne⟩
      clear hne hle
      have hfz := fun k => node_frozen HM.out.inn.1 k
      obtain ⟨q0, q1, q2, q3, q4, q5⟩ := node_cells HM.out.inn.1
      have hbs : b ≠ sz := by rw [← hsz.out]; exact fun e => HM.out.far (by simp [FT.blocks, e])
      have x0 := far_cell (k := 2) (v := .bool true) b0 hbs
      have x1 := far_cell (k := 2) (v := .bool true) b1 hbs
      have x2 := far_cell (k := 2) (v := .bool true) b2 hbs
      clear hbs
      go_wp2_with fail
      go_region
      go_wp2_with fail
      obtain ⟨HW⟩ : Nonempty (Hid (_ ∧ _)) := ⟨And.intro (store_way (x := true) HM.out.inn HM.out.nd ea en eh) (put_here (b := b) (b' := b) (e := ((ea, en), eh)) hr HM.out.ok he hh HN.out)⟩
      go_ret
      exact HM.out.done HW.out.2.1 (in_drew HW.out.1.1) HM.out.nd (fun c hc => .inl hc) HW.out.2.2 HW.out.1.2.drew
    · have hne' : (n == en) = false := by simpa using hne
      obtain ⟨HN⟩ : Nonempty (Hid (n ≠ en)) := ⟨hne⟩
      have hlt : n < 32 := by have := rt_len he; omega
      have hbs : Hid (b ≠ sz) := by rw [← hsz.out]; exact fun e => HM.out.far (by simp [FT.blocks, e])
      obtain ⟨HBS⟩ : Nonempty (Hid (b ≠ sz)) := ⟨hbs⟩
      clear hne hbs
      cases hi : hiB base n ea with
      | true =>
        have hk : Hid (bitI base n ea = 1) := by simp [bitI, hi, Hid]
        go_wp2_with fail
        go_quiet ((go_at_call 63; exact Calls.quiet_of_same (bit_any base n ea 1 _ hr hlt hh hk)))
        go_wp2_with fail
        obtain ⟨HM2⟩ : Nonempty (Hid (Mid w (W.drewN nq).drew T (.node b is e0 l r) base n ea en eh)) := ⟨(HM.out.drewN nq).drew⟩
        obtain ⟨b0, b1, b2⟩ : (W.drewN nq).cell? ⟨sz, 0, none⟩ = some (.int .i64 ea) ∧ (W.drewN nq).cell? ⟨sz, 1, none⟩ = some (.int .i64 en) ∧ (W.drewN nq).cell? ⟨sz, 2, none⟩ = some (.int .i64 eh) := by rw [← hsz.out]; exact ⟨HM2.out.c0, HM2.out.c1, HM2.out.c2⟩
        obtain ⟨kp, hkp⟩ := FT.ptr_pointer r
        obtain ⟨HC⟩ : Nonempty (Hid (Calls _ _ _ _ _)) := ⟨IH.out (32 - (n + 1)).toNat (by omega) r (base + pw (n + 1)) (n + 1) ea en eh (W.drewN nq).drew rfl (rt_y hr hlt) HM2.out.ok.2.2.2 HM2.out.inn.2.2 (nodup_node.1 HM2.out.nd).2.2.2.1 he (hi_has hr hlt hh hi) (by have := HN.out; omega)⟩
        rw [hkp] at HC
        have hcell := (node_cells HM2.out.inn.1).2.1
        rw [hkp] at hcell
        obtain ⟨W2, hW2⟩ : ∃ X, Hid (W.drewN nq = X) := ⟨_, show _ = _ from rfl⟩
        rw [show W.drewN nq = W2 from hW2.out] at HC HM2 b0 b1 b2 hcell ⊢
        replace hcell : W2.cell? ⟨b, 1, none⟩ = some (.pointer kp) := hcell
        obtain ⟨HK⟩ : Nonempty (Hid (r.ptr = .pointer kp)) := ⟨hkp⟩
        clear hkp
        have hwr : IntKind.i64.wrap (n + 1) = n + 1 := wraps_i64 _ (by have := rt_len hr; omega) (by omega)
        refine wp_region_noPanic ?_
        refine wp_region_held_drew (S := (fun w' => w'.cell? ⟨sz, 0, none⟩ = some (.int .i64 ea) ∧ w'.cell? ⟨sz, 1, none⟩ = some (.int .i64 en) ∧ w'.cell? ⟨sz, 2, none⟩ = some (.int .i64 eh))) (by kernel_rfl) ?_ (fun hHeld => ?_)
        · exact ⟨b0, b1, b2⟩
        refine wpAnyH_take (i := 0) (v := ?_) rfl (by kernel_rfl) (by kernel_rfl) (by kernel_rfl) (fun _ _ _ h => h) (Or.inl ⟨by rfl, ?_⟩) (by assumption) ?_
        rotate_left
        · (intro w hSw; (try dsimp only at hSw); go_simp; try (with_reducible rfl))
        try simp only [Act.put, List.setIfInBounds_toArray, List.set_cons_zero, List.set_cons_succ, List.getElem_toArray, List.getElem_cons_zero, List.getElem_cons_succ]
        refine wpAnyH_take (i := 1) (v := ?_) rfl (by kernel_rfl) (by kernel_rfl) (by kernel_rfl) (fun _ _ _ h => h) (Or.inl ⟨by rfl, ?_⟩) (by assumption) ?_
        rotate_left
        · (intro w hSw; (try dsimp only at hSw); go_simp; try (with_reducible rfl))
        try simp only [Act.put, List.setIfInBounds_toArray, List.set_cons_zero, List.set_cons_succ, List.getElem_toArray, List.getElem_cons_zero, List.getElem_cons_succ]
        refine wpAnyH_take (i := 2) (v := ?_) rfl (by kernel_rfl) (by kernel_rfl) (by kernel_rfl) (fun _ _ _ h => h) (Or.inl ⟨by rfl, ?_⟩) (by assumption) ?_
        rotate_left
        · (intro w hSw; (try dsimp only at hSw); go_simp; try (with_reducible rfl))
        try simp only [Act.put, List.setIfInBounds_toArray, List.set_cons_zero, List.set_cons_succ, List.getElem_toArray, List.getElem_cons_zero, List.getElem_cons_succ]
        refine wpAnyH_take (i := 4) (v := ?_) rfl (by kernel_rfl) (by kernel_rfl) (by kernel_rfl) (fun _ _ _ h => h) (Or.inl ⟨by rfl, ?_⟩) (by assumption) ?_
        rotate_left
        · (intro w hSw; (try dsimp only at hSw); go_simp; try (with_reducible rfl))
        try simp only [Act.put, List.setIfInBounds_toArray, List.set_cons_zero, List.set_cons_succ, List.getElem_toArray, List.getElem_cons_zero, List.getElem_cons_succ]
        refine wpAnyH_take (i := 5) (v := ?_) rfl (by kernel_rfl) (by kernel_rfl) (by kernel_rfl) (fun _ _ _ h => h) (Or.inl ⟨by rfl, ?_⟩) (by assumption) ?_
        rotate_left
        · (intro w hSw; (try dsimp only at hSw); go_simp; try (with_reducible rfl))
        try simp only [Act.put, List.setIfInBounds_toArray, List.set_cons_zero, List.set_cons_succ, List.getElem_toArray, List.getElem_cons_zero, List.getElem_cons_succ]
        refine wpAnyH_take (i := 6) (v := ?_) rfl (by kernel_rfl) (by kernel_rfl) (by kernel_rfl) (fun _ _ _ h => h) (Or.inl ⟨by rfl, ?_⟩) (by assumption) ?_
        rotate_left
        · (intro w hSw; (try dsimp only at hSw); go_simp; try (with_reducible rfl))
        try simp only [Act.put, List.setIfInBounds_toArray, List.set_cons_zero, List.set_cons_succ, List.getElem_toArray, List.getElem_cons_zero, List.getElem_cons_succ]
        refine wpAnyH_ready (rs := [3]) (by kernel_rfl) (by simp) ?_
        refine AllReadyH.cons rfl (fun K hK => ?_) AllReadyH.nil
        go_simp
        refine hK.out _ _ ?_ (fun hHeld => ?_)
        · exact hHeld
        clear hK K
        try simp only [Act.put, List.setIfInBounds_toArray, List.set_cons_zero, List.set_cons_succ, List.getElem_toArray, List.getElem_cons_zero, List.getElem_cons_succ]
        refine wpAnyH_ready (rs := [7]) (by kernel_rfl) (by simp) ?_
        refine AllReadyH.cons rfl (fun K hK => ?_) AllReadyH.nil
        go_simp
        refine HC.out.mono ?_
        clear HC
        rintro z w1 ⟨r', rfl, hok', hin', hnd', hs', hp', hk'⟩
        obtain ⟨n1, n2, n3, n4, n5⟩ := nodup_node.1 HM2.out.nd
        have hbox : sz ∉ r.blocks := by rw [← hsz.out]; exact fun h => HM2.out.far (by simp [FT.blocks, h])
        have hnode := hk'.heap HM2.out.inn.1 n2
        have hfz := node_frozen hnode 1
        have hcl := (node_cells hnode).2.1
        rw [show r.ptr = .pointer kp from HK.out] at hcl
        obtain ⟨HE⟩ : Nonempty (Hid (_ ∧ _)) := ⟨And.intro (store_right HM2.out.inn HM2.out.nd hin' hnd' hs' hk') (put_right (b := b) (b' := b) (e := ((ea, en), eh)) hr hlt HM2.out.ok HN.out hi hok' hp')⟩
        obtain ⟨u, hu⟩ := FT.ptr_pointer r'
        rw [hu] at HE ⊢
        have hc3 := And.intro (hk'.cell (p := ⟨sz, 0, none⟩) b0 hbox) (And.intro (hk'.cell (p := ⟨sz, 1, none⟩) b1 hbox) (hk'.cell (p := ⟨sz, 2, none⟩) b2 hbox))
        clear hin' hnd' hs' hk' hnode n1 n2 n3 n4 n5 hbox hu hok' hp' HK hcell b0 b1 b2
        refine hK.out _ _ ?_ (fun hHeld => ?_)
        · exact hc3
        clear hK K
        try simp only [Act.put, List.setIfInBounds_toArray, List.set_cons_zero, List.set_cons_succ, List.getElem_toArray, List.getElem_cons_zero, List.getElem_cons_succ]
        refine wpAnyH_take (i := 8) (v := ?_) rfl (by kernel_rfl) (by kernel_rfl) (by kernel_rfl) (fun _ _ _ h => h) (Or.inl ⟨by rfl, ?_⟩) (by assumption) ?_
        rotate_left
        · (intro w hSw; (try dsimp only at hSw); go_simp; try (with_reducible rfl))
        try simp only [Act.put, List.setIfInBounds_toArray, List.set_cons_zero, List.set_cons_succ, List.getElem_toArray, List.getElem_cons_zero, List.getElem_cons_succ]
        refine wpAnyH_ready (rs := [9]) (by kernel_rfl) (by simp) ?_
        refine AllReadyH.cons rfl (fun K hK => ?_) AllReadyH.nil
        go_simp
        refine hK.out _ _ ?_ (fun hHeld => ?_)
        · exact ⟨far_cell hHeld.1 HBS.out, far_cell hHeld.2.1 HBS.out, far_cell hHeld.2.2 HBS.out⟩
        clear hK K
        try simp only [Act.put, List.setIfInBounds_toArray, List.set_cons_zero, List.set_cons_succ, List.getElem_toArray, List.getElem_cons_zero, List.getElem_cons_succ]
        refine wpAnyH_done (by kernel_rfl) ?_ _
        refine NoPanic.normal ?_
        clear hHeld hwr
        go_wp2_with fail
        go_ret
        exact HM2.out.done HE.out.2.1 HE.out.1.1 HE.out.1.2.1 HE.out.1.2.2.1 HE.out.2.2 HE.out.1.2.2.2
      | false =>
        have hk : Hid (bitI base n ea = 0) := by simp [bitI, hi, Hid]
        go_wp2_with fail
        go_quiet ((go_at_call 63; exact Calls.quiet_of_same (bit_any base n ea 0 _ hr hlt hh hk)))
        go_wp2_with fail
        obtain ⟨HM2⟩ : Nonempty (Hid (Mid w (W.drewN nq).drew T (.node b is e0 l r) base n ea en eh)) := ⟨(HM.out.drewN nq).drew⟩
        obtain ⟨b0, b1, b2⟩ : (W.drewN nq).cell? ⟨sz, 0, none⟩ = some (.int .i64 ea) ∧ (W.drewN nq).cell? ⟨sz, 1, none⟩ = some (.int .i64 en) ∧ (W.drewN nq).cell? ⟨sz, 2, none⟩ = some (.int .i64 eh) := by rw [← hsz.out]; exact ⟨HM2.out.c0, HM2.out.c1, HM2.out.c2⟩
        obtain ⟨kp, hkp⟩ := FT.ptr_pointer l
        obtain ⟨HC⟩ : Nonempty (Hid (Calls _ _ _ _ _)) := ⟨IH.out (32 - (n + 1)).toNat (by omega) l (base) (n + 1) ea en eh (W.drewN nq).drew rfl (rt_x hr hlt) HM2.out.ok.2.2.1 HM2.out.inn.2.1 (nodup_node.1 HM2.out.nd).2.2.1 he (lo_has hr hlt hh hi) (by have := HN.out; omega)⟩
        rw [hkp] at HC
        have hcell := (node_cells HM2.out.inn.1).1
        rw [hkp] at hcell
        obtain ⟨W2, hW2⟩ : ∃ X, Hid (W.drewN nq = X) := ⟨_, show _ = _ from rfl⟩
        rw [show W.drewN nq = W2 from hW2.out] at HC HM2 b0 b1 b2 hcell ⊢
        replace hcell : W2.cell? ⟨b, 0, none⟩ = some (.pointer kp) := hcell
        obtain ⟨HK⟩ : Nonempty (Hid (l.ptr = .pointer kp)) := ⟨hkp⟩
        clear hkp
        have hwr : IntKind.i64.wrap (n + 1) = n + 1 := wraps_i64 _ (by have := rt_len hr; omega) (by omega)
        refine wp_region_noPanic ?_
        refine wp_region_held_drew (S := (fun w' => w'.cell? ⟨sz, 0, none⟩ = some (.int .i64 ea) ∧ w'.cell? ⟨sz, 1, none⟩ = some (.int .i64 en) ∧ w'.cell? ⟨sz, 2, none⟩ = some (.int .i64 eh))) (by kernel_rfl) ?_ (fun hHeld => ?_)
        · exact ⟨b0, b1, b2⟩
        refine wpAnyH_take (i := 0) (v := ?_) rfl (by kernel_rfl) (by kernel_rfl) (by kernel_rfl) (fun _ _ _ h => h) (Or.inl ⟨by rfl, ?_⟩) (by assumption) ?_
        rotate_left
        · (intro w hSw; (try dsimp only at hSw); go_simp; try (with_reducible rfl))
        try simp only [Act.put, List.setIfInBounds_toArray, List.set_cons_zero, List.set_cons_succ, List.getElem_toArray, List.getElem_cons_zero, List.getElem_cons_succ]
        refine wpAnyH_take (i := 1) (v := ?_) rfl (by kernel_rfl) (by kernel_rfl) (by kernel_rfl) (fun _ _ _ h => h) (Or.inl ⟨by rfl, ?_⟩) (by assumption) ?_
        rotate_left
        · (intro w hSw; (try dsimp only at hSw); go_simp; try (with_reducible rfl))
        try simp only [Act.put, List.setIfInBounds_toArray, List.set_cons_zero, List.set_cons_succ, List.getElem_toArray, List.getElem_cons_zero, List.getElem_cons_succ]
        refine wpAnyH_take (i := 2) (v := ?_) rfl (by kernel_rfl) (by kernel_rfl) (by kernel_rfl) (fun _ _ _ h => h) (Or.inl ⟨by rfl, ?_⟩) (by assumption) ?_
        rotate_left
        · (intro w hSw; (try dsimp only at hSw); go_simp; try (with_reducible rfl))
        try simp only [Act.put, List.setIfInBounds_toArray, List.set_cons_zero, List.set_cons_succ, List.getElem_toArray, List.getElem_cons_zero, List.getElem_cons_succ]
        refine wpAnyH_take (i := 4) (v := ?_) rfl (by kernel_rfl) (by kernel_rfl) (by kernel_rfl) (fun _ _ _ h => h) (Or.inl ⟨by rfl, ?_⟩) (by assumption) ?_
        rotate_left
        · (intro w hSw; (try dsimp only at hSw); go_simp; try (with_reducible rfl))
        try simp only [Act.put, List.setIfInBounds_toArray, List.set_cons_zero, List.set_cons_succ, List.getElem_toArray, List.getElem_cons_zero, List.getElem_cons_succ]
        refine wpAnyH_take (i := 5) (v := ?_) rfl (by kernel_rfl) (by kernel_rfl) (by kernel_rfl) (fun _ _ _ h => h) (Or.inl ⟨by rfl, ?_⟩) (by assumption) ?_
        rotate_left
        · (intro w hSw; (try dsimp only at hSw); go_simp; try (with_reducible rfl))
        try simp only [Act.put, List.setIfInBounds_toArray, List.set_cons_zero, List.set_cons_succ, List.getElem_toArray, List.getElem_cons_zero, List.getElem_cons_succ]
        refine wpAnyH_take (i := 6) (v := ?_) rfl (by kernel_rfl) (by kernel_rfl) (by kernel_rfl) (fun _ _ _ h => h) (Or.inl ⟨by rfl, ?_⟩) (by assumption) ?_
        rotate_left
        · (intro w hSw; (try dsimp only at hSw); go_simp; try (with_reducible rfl))
        try simp only [Act.put, List.setIfInBounds_toArray, List.set_cons_zero, List.set_cons_succ, List.getElem_toArray, List.getElem_cons_zero, List.getElem_cons_succ]
        refine wpAnyH_ready (rs := [3]) (by kernel_rfl) (by simp) ?_
        refine AllReadyH.cons rfl (fun K hK => ?_) AllReadyH.nil
        go_simp
        refine hK.out _ _ ?_ (fun hHeld => ?_)
        · exact hHeld
        clear hK K
        try simp only [Act.put, List.setIfInBounds_toArray, List.set_cons_zero, List.set_cons_succ, List.getElem_toArray, List.getElem_cons_zero, List.getElem_cons_succ]
        refine wpAnyH_ready (rs := [7]) (by kernel_rfl) (by simp) ?_
        refine AllReadyH.cons rfl (fun K hK => ?_) AllReadyH.nil
        go_simp
        refine HC.out.mono ?_
        clear HC
        rintro z w1 ⟨l', rfl, hok', hin', hnd', hs', hp', hk'⟩
        obtain ⟨n1, n2, n3, n4, n5⟩ := nodup_node.1 HM2.out.nd
        have hbox : sz ∉ l.blocks := by rw [← hsz.out]; exact fun h => HM2.out.far (by simp [FT.blocks, h])
        have hnode := hk'.heap HM2.out.inn.1 n1
        have hfz := node_frozen hnode 0
        have hcl := (node_cells hnode).1
        rw [show l.ptr = .pointer kp from HK.out] at hcl
        obtain ⟨HE⟩ : Nonempty (Hid (_ ∧ _)) := ⟨And.intro (store_left HM2.out.inn HM2.out.nd hin' hnd' hs' hk') (put_left (b := b) (b' := b) (e := ((ea, en), eh)) hr hlt HM2.out.ok HN.out hi hok' hp')⟩
        obtain ⟨u, hu⟩ := FT.ptr_pointer l'
        rw [hu] at HE ⊢
        have hc3 := And.intro (hk'.cell (p := ⟨sz, 0, none⟩) b0 hbox) (And.intro (hk'.cell (p := ⟨sz, 1, none⟩) b1 hbox) (hk'.cell (p := ⟨sz, 2, none⟩) b2 hbox))
        clear hin' hnd' hs' hk' hnode n1 n2 n3 n4 n5 hbox hu hok' hp' HK hcell b0 b1 b2
        refine hK.out _ _ ?_ (fun hHeld => ?_)
        · exact hc3
        clear hK K
        try simp only [Act.put, List.setIfInBounds_toArray, List.set_cons_zero, List.set_cons_succ, List.getElem_toArray, List.getElem_cons_zero, List.getElem_cons_succ]
        refine wpAnyH_take (i := 8) (v := ?_) rfl (by kernel_rfl) (by kernel_rfl) (by kernel_rfl) (fun _ _ _ h => h) (Or.inl ⟨by rfl, ?_⟩) (by assumption) ?_
        rotate_left
        · (intro w hSw; (try dsimp only at hSw); go_simp; try (with_reducible rfl))
        try simp only [Act.put, List.setIfInBounds_toArray, List.set_cons_zero, List.set_cons_succ, List.getElem_toArray, List.getElem_cons_zero, List.getElem_cons_succ]
        refine wpAnyH_ready (rs := [9]) (by kernel_rfl) (by simp) ?_
        refine AllReadyH.cons rfl (fun K hK => ?_) AllReadyH.nil
        go_simp
        refine hK.out _ _ ?_ (fun hHeld => ?_)
        · exact ⟨far_cell hHeld.1 HBS.out, far_cell hHeld.2.1 HBS.out, far_cell hHeld.2.2 HBS.out⟩
        clear hK K
        try simp only [Act.put, List.setIfInBounds_toArray, List.set_cons_zero, List.set_cons_succ, List.getElem_toArray, List.getElem_cons_zero, List.getElem_cons_succ]
        refine wpAnyH_done (by kernel_rfl) ?_ _
        refine NoPanic.normal ?_
        clear hHeld hwr
        go_wp2_with fail
        go_ret
        exact HM2.out.done HE.out.2.1 HE.out.1.1 HE.out.1.2.1 HE.out.1.2.2.1 HE.out.2.2 HE.out.1.2.2.2
end Go.Proofs.YthehpnhjfnenoabDoor
