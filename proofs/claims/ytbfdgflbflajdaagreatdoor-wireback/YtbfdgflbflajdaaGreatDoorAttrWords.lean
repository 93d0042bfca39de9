/-
  Package attr's readWords: what it returns at five words.
-/
import Derived.Test.YtbfdgflbflajdaaGreatDoorAttrRd
namespace Go.Proofs.YtbfdgflbflajdaaGreatDoor
open Go.RowKit

theorem Ints.kept {w w' : World} {F : List Nat} {p : Option Addr} {L : List Int} (h : Ints w p L) (hk : Kept F w w') (hn : ∀ b o, p = some ⟨b, o, none⟩ → b ∉ F) : Ints w' p L := fun i hi => by
  obtain ⟨b, o, e, c⟩ := h i hi
  exact ⟨b, o, e, hk.cell c (hn b o e)⟩
/-- the five words' cells. -/
def Five (w : World) (pb po : Nat) (a b c d e : List UInt8) : Prop :=
  w.cell? ⟨pb, po, none⟩ = some (.string ⟨a.toArray⟩) ∧ w.cell? ⟨pb, po + 1, none⟩ = some (.string ⟨b.toArray⟩) ∧ w.cell? ⟨pb, po + 2, none⟩ = some (.string ⟨c.toArray⟩) ∧ w.cell? ⟨pb, po + 3, none⟩ = some (.string ⟨d.toArray⟩) ∧ w.cell? ⟨pb, po + 4, none⟩ = some (.string ⟨e.toArray⟩)
theorem Five.kept {w w' : World} {F : List Nat} {pb po : Nat} {a b c d e : List UInt8} (h : Five w pb po a b c d e) (hk : Kept F w w') (hn : pb ∉ F) : Five w' pb po a b c d e :=
  ⟨hk.cell h.1 hn, hk.cell h.2.1 hn, hk.cell h.2.2.1 hn, hk.cell h.2.2.2.1 hn, hk.cell h.2.2.2.2 hn⟩
theorem Five.lt {w : World} {pb po : Nat} {a b c d e : List UInt8} (h : Five w pb po a b c d e) : pb < w.heap.size := cell_lt' h.1
def wordsM (a b c d e : List UInt8) : At := ⟨unlM 45 a, numOf b, numOf c, numOf d, unlM 44 e⟩
def wordsB (a b c d e : List UInt8) : Bool := ((((true && unlOk 45 a) && okNum b) && okNum c) && okNum d) && unlOk 44 e
theorem wordsB_ok (a b c d e : List UInt8) : wordsB a b c d e = wordsOk [a, b, c, d, e] := by
  unfold wordsB wordsOk allNum
  simp only [List.all_cons, List.all_nil, Bool.and_true, Bool.true_and]
  cases unlOk 45 a <;> cases okNum b <;> cases okNum c <;> cases okNum d <;> cases unlOk 44 e <;> rfl
theorem wordsM_ok {a b c d e : List UInt8} (h : wordsOk [a, b, c, d, e] = true) : wordsM a b c d e = wordsA [a, b, c, d, e] := by
  unfold wordsOk allNum at h
  simp only [List.all_cons, List.all_nil, Bool.and_true, Bool.and_eq_true] at h
  obtain ⟨⟨h1, h2⟩, h3, h4, h5⟩ := h
  show _ = At.mk (unlN 45 a) (numR b) (numR c) (numR d) (unlN 44 e)
  unfold wordsM
  rw [unlM_ok h1, unlM_ok h2, numR_yes h3, numR_yes h4, numR_yes h5, numOf_yes h3, numOf_yes h4, numOf_yes h5]
/-- the state while the words are read: all but the truth's cell stands. -/
structure RS (W2 wr : World) (N : Nat) (bb : Bool) : Prop where
  kept : Kept [N + 1] W2 wr
  right : RB wr (N + 1) bb
theorem RS.step {W2 wr w' : World} {N : Nat} {bb b' : Bool} (h : RS W2 wr N bb) (hr : RB w' (N + 1) b') (hk : Kept [N + 1] wr w') : RS W2 w' N b' := ⟨h.kept.trans hk (by simp), hr⟩
theorem RS.alloc {W2 wr : World} {N : Nat} {bb : Bool} (h : RS W2 wr N bb) (o : Obj) : RS W2 (wr.alloc o) N bb := ⟨h.kept.alloc o, h.right.below (below_alloc _ _)⟩
/-- a row of numbers that was read. -/
def RI (wr : World) (N : Nat) (p : Option Addr) (L : List Int) (c : Nat) : Prop :=
  Ints wr p L ∧ Kind1 p L.length c ∧ ∀ b o, p = some ⟨b, o, none⟩ → N + 2 ≤ b ∧ ∃ cur, wr.heap[b]? = some (.cells cur 3 (0, 0))
theorem ri_own {w : World} {B N : Nat} {v : Value} {L : List Int} (h : w.ownsRow B 3 1 v L.length (L.map intV)) (hB : N + 2 ≤ B) : ∃ p c, v = .slice p L.length c ∧ RI w N p L c := by
  obtain ⟨p, cap, e1, hk, hi, hf⟩ := own_kind' h
  refine ⟨p, cap, e1, hi, hk, fun b o e2 => ?_⟩
  have := hf b o e2
  refine ⟨by omega, ?_⟩
  subst e1 e2
  rcases h.2 with ⟨hv, h0⟩ | ⟨g, cap', cur, hv, hb, hg, -⟩
  · simp at hv
  · simp only [Value.slice.injEq, Option.some.injEq, Addr.mk.injEq] at hv
    obtain ⟨⟨rfl, -⟩, -⟩ := hv
    exact ⟨cur, hg⟩
theorem RI.step {wr w' : World} {N : Nat} {p : Option Addr} {L : List Int} {c : Nat} (h : RI wr N p L c) {F : List Nat} (hk : Kept F wr w') (hF : ∀ x ∈ F, x < N + 2) : RI w' N p L c := by
  have hn : ∀ b o, p = some ⟨b, o, none⟩ → b ∉ F := fun b o e hm => by have := (h.2.2 b o e).1; have := hF b hm; omega
  refine ⟨h.1.kept hk hn, h.2.1, fun b o e => ?_⟩
  obtain ⟨x, cur, y⟩ := h.2.2 b o e
  exact ⟨x, cur, hk.heap y (hn b o e)⟩
theorem RI.set {wr : World} {N : Nat} {p : Option Addr} {L : List Int} {c : Nat} (h : RI wr N p L c) {X k : Nat} {va : Array Value} (hX : wr.heap[X]? = some (.cells va 24 (0, 0))) (u : Value) : RI (wr.setCell ⟨X, k, none⟩ u) N p L c := by
  have hn : ∀ b o, p = some ⟨b, o, none⟩ → b ≠ X := fun b o e he => by
    obtain ⟨-, cur, y⟩ := h.2.2 b o e
    rw [he, hX] at y
    simp at y
  have hk : Kept [X] wr (wr.setCell ⟨X, k, none⟩ u) := (Kept.refl _ _).setCell (Or.inl (by simp)) _
  refine ⟨h.1.kept hk (fun b o e => by simpa using hn b o e), h.2.1, fun b o e => ?_⟩
  obtain ⟨x, cur, y⟩ := h.2.2 b o e
  exact ⟨x, cur, hk.heap y (by simpa using hn b o e)⟩
/-- an attribute's place. -/
def RX (wr : World) (N X : Nat) (va : Array Value) : Prop := wr.heap[X]? = some (.cells va 24 (0, 0)) ∧ N + 2 ≤ X
theorem RX.step {wr w' : World} {N X : Nat} {va : Array Value} (h : RX wr N X va) {F : List Nat} (hk : Kept F wr w') (hF : ∀ x ∈ F, x < N + 2) : RX w' N X va :=
  ⟨hk.heap h.1 (fun hm => by have := h.2; have := hF X hm; omega), h.2⟩
theorem RX.set {wr : World} {N X : Nat} {va : Array Value} (h : RX wr N X va) (k : Nat) (u : Value) : RX (wr.setCell ⟨X, k, none⟩ u) N X (va.setIfInBounds k u) := ⟨heap_setCell_same wr X k va _ u h.1, h.2⟩
theorem RX.cells {wr : World} {N X : Nat} {a b c d e : Value} (h : RX wr N X #[a, b, c, d, e]) : wr.cell? ⟨X, 0, none⟩ = some a ∧ wr.cell? ⟨X, 1, none⟩ = some b ∧ wr.cell? ⟨X, 2, none⟩ = some c ∧ wr.cell? ⟨X, 3, none⟩ = some d ∧ wr.cell? ⟨X, 4, none⟩ = some e := by
  refine ⟨?_, ?_, ?_, ?_, ?_⟩ <;> simp [World.cell?, h.1]
theorem RX.soft {wr : World} {N X : Nat} {va : Array Value} (h : RX wr N X va) (k : Nat) : wr.frozen? ⟨X, k, none⟩ = false := by simp [World.frozen?, h.1]
/-- an attribute's place, once it is written. -/
def RY (wr : World) (N : Nat) (va : Array Value) : Prop := wr.heap[N]? = some (.cells va 24 (0, 0))
theorem RY.cells {wr : World} {X : Nat} {a b c d e : Value} (h : RY wr X #[a, b, c, d, e]) : wr.cell? ⟨X, 0, none⟩ = some a ∧ wr.cell? ⟨X, 1, none⟩ = some b ∧ wr.cell? ⟨X, 2, none⟩ = some c ∧ wr.cell? ⟨X, 3, none⟩ = some d ∧ wr.cell? ⟨X, 4, none⟩ = some e := by
  unfold RY at h
  refine ⟨?_, ?_, ?_, ?_, ?_⟩ <;> simp [World.cell?, h]
theorem RY.set {wr : World} {X : Nat} {va : Array Value} (h : RY wr X va) (k : Nat) (u : Value) : RY (wr.setCell ⟨X, k, none⟩ u) X (va.setIfInBounds k u) := heap_setCell_same wr X k va _ u h
theorem RY.drew {wr : World} {X : Nat} {va : Array Value} (h : RY wr X va) : RY wr.drew X va := h
theorem five_set {wx : World} {N : Nat} (hn : wx.heap[N]? = some (.cells #[.slice none 0 0, .int .i64 0, .int .i64 0, .int .i64 0, .slice none 0 0] 24 (0, 0))) (a b c d e : Value) :
    RY (((((wx.setCell ⟨N, 0, none⟩ a).setCell ⟨N, 1, none⟩ b).setCell ⟨N, 2, none⟩ c).setCell ⟨N, 3, none⟩ d).setCell ⟨N, 4, none⟩ e).drew N #[a, b, c, d, e] := by
  have x0 : RY wx N #[.slice none 0 0, .int .i64 0, .int .i64 0, .int .i64 0, .slice none 0 0] := hn
  have x5 := ((((x0.set 0 a).set 1 b).set 2 c).set 3 d).set 4 e
  simp only [List.setIfInBounds_toArray, List.set_cons_zero, List.set_cons_succ] at x5
  exact x5.drew
theorem five_kept (wx : World) (N : Nat) (a b c d e : Value) : Kept [N] wx (((((wx.setCell ⟨N, 0, none⟩ a).setCell ⟨N, 1, none⟩ b).setCell ⟨N, 2, none⟩ c).setCell ⟨N, 3, none⟩ d).setCell ⟨N, 4, none⟩ e).drew :=
  ((((((Kept.refl _ wx).setCell (Or.inl (by simp)) _).setCell (Or.inl (by simp)) _).setCell (Or.inl (by simp)) _).setCell (Or.inl (by simp)) _).setCell (Or.inl (by simp)) _).drew
/-- all is read. -/
def RD (W2 wr : World) (N X : Nat) (A : At) (bb : Bool) : Prop :=
  RS W2 wr N bb ∧ ∃ p c q d, RX wr N X #[.slice p A.path.length c, .int .i64 A.pref, .int .i64 A.med, .int .i64 A.org, .slice q A.tags.length d] ∧ RI wr N p A.path c ∧ RI wr N q A.tags d
theorem rd_end {W2 wr : World} {N X : Nat} {bb : Bool} {P T : List Int} {x y z : Int} {p q : Option Addr} {c d : Nat} (hz : W2.heap.size = N + 2) (hs : RS W2 wr N bb) (hx : RX wr N X #[.slice none 0 0, .int .i64 0, .int .i64 0, .int .i64 0, .slice none 0 0]) (h1 : RI wr N p P c) (h2 : RI wr N q T d) :
    RD W2 (((((wr.setCell ⟨X, 0, none⟩ (.slice p P.length c)).setCell ⟨X, 1, none⟩ (.int .i64 x)).setCell ⟨X, 2, none⟩ (.int .i64 y)).setCell ⟨X, 3, none⟩ (.int .i64 z)).setCell ⟨X, 4, none⟩ (.slice q T.length d)) N X ⟨P, x, y, z, T⟩ bb := by
  have x1 := hx.set 0 (.slice p P.length c)
  have x2 := x1.set 1 (.int .i64 x)
  have x3 := x2.set 2 (.int .i64 y)
  have x4 := x3.set 3 (.int .i64 z)
  have x5 := x4.set 4 (.slice q T.length d)
  simp only [List.setIfInBounds_toArray, List.set_cons_zero, List.set_cons_succ] at x5
  have hk : Kept [X] wr (((((wr.setCell ⟨X, 0, none⟩ (.slice p P.length c)).setCell ⟨X, 1, none⟩ (.int .i64 x)).setCell ⟨X, 2, none⟩ (.int .i64 y)).setCell ⟨X, 3, none⟩ (.int .i64 z)).setCell ⟨X, 4, none⟩ (.slice q T.length d)) :=
    (((((Kept.refl _ _).setCell (Or.inl (by simp)) _).setCell (Or.inl (by simp)) _).setCell (Or.inl (by simp)) _).setCell (Or.inl (by simp)) _).setCell (Or.inl (by simp)) _
  refine ⟨⟨?_, ?_⟩, p, c, q, d, x5, ?_, ?_⟩
  · exact hs.kept.trans hk (by intro x hx'; simp at hx'; subst hx'; right; have := hx.2; omega)
  · exact hk.heap hs.right (by have := hx.2; simp; omega)
  · exact ((((h1.set hx.1 _).set x1.1 _).set x2.1 _).set x3.1 _).set x4.1 _
  · exact ((((h2.set hx.1 _).set x1.1 _).set x2.1 _).set x3.1 _).set x4.1 _

set_option linter.unusedSimpArgs false in
set_option linter.unusedVariables false in
set_option maxRecDepth 100000 in
set_option maxHeartbeats 16000000 in
theorem readWords_any (a b c d e : List UInt8) (pb po cap : Nat) (E : Nat → Addr) (m : Int) (w : World) (hE : AttrEnv w E m) (h : Five w pb po a b c d e) (ha : a.length < 4294967281) (hb : b.length ≤ maxLen) (hc : c.length ≤ maxLen) (hd : d.length ≤ maxLen) (he : e.length < 4294967281) (hcap : 5 ≤ cap) :
    Calls Tryz.prog 41 #[.slice (some ⟨pb, po, none⟩) 5 cap] w fun r w' => (∃ v, r = .returned (.tuple #[v, .bool (wordsB a b c d e)]) ∧ AttrF w' v (wordsM a b c d e) w.heap.size) ∧ Below w.heap.size w w' := by
  obtain ⟨N, hN⟩ : ∃ N, Hid (w.heap.size = N) := ⟨_, show _ = _ from rfl⟩
  obtain ⟨HE⟩ : Nonempty (Hid (AttrEnv w E m ∧ Five w pb po a b c d e ∧ pb < N)) := ⟨⟨hE, h, by rw [← hN.out]; exact h.lt⟩⟩
  obtain ⟨HL⟩ : Nonempty (Hid (a.length < 4294967281 ∧ b.length ≤ maxLen ∧ c.length ≤ maxLen ∧ d.length ≤ maxLen ∧ e.length < 4294967281)) := ⟨⟨ha, hb, hc, hd, he⟩⟩
  have heg := enters_rd
  obtain ⟨W2, hW2⟩ : ∃ W2, Hid ((w.alloc (.cells #[.slice none 0 0, .int .i64 0, .int .i64 0, .int .i64 0, .slice none 0 0] 24)).alloc (.cells #[.bool true] 4) = W2) := ⟨_, show _ = _ from rfl⟩
  obtain ⟨HW⟩ : Nonempty (Hid (W2.heap.size = N + 2 ∧ W2.heap[N]? = some (.cells #[.slice none 0 0, .int .i64 0, .int .i64 0, .int .i64 0, .slice none 0 0] 24 (0, 0)) ∧ RB W2 (N + 1) true ∧ Kept [] w W2)) := ⟨by
    rw [← hW2.out, ← hN.out]
    have s1 : (w.alloc (.cells #[.slice none 0 0, .int .i64 0, .int .i64 0, .int .i64 0, .slice none 0 0] 24)).heap.size = w.heap.size + 1 := by simp
    have b1 := Go.heap_alloc_new (w.alloc (.cells #[.slice none 0 0, .int .i64 0, .int .i64 0, .int .i64 0, .slice none 0 0] 24)) (.cells #[.bool true] 4)
    rw [s1] at b1
    refine ⟨by simp, ?_, b1, ((Kept.refl _ _).alloc _).alloc _⟩
    rw [(below_alloc _ _).block _ (by simp)]
    exact Go.heap_alloc_new w _⟩
  obtain ⟨xb, hxb⟩ : ∃ x, Hid (wordsB a b c d e = x) := ⟨_, show _ = _ from rfl⟩
  obtain ⟨xm, hxm⟩ : ∃ x, Hid (wordsM a b c d e = x) := ⟨_, show _ = _ from rfl⟩
  rw [show wordsB a b c d e = xb from hxb.out, show wordsM a b c d e = xm from hxm.out]
  clear hE h ha hb hc hd he
  go_enter Tryz.func41, Tryz.ntmps41
  go_upto_region 3 with fail
  rw [show (w.alloc (.cells #[.slice none 0 0, .int .i64 0, .int .i64 0, .int .i64 0, .slice none 0 0] 24)).alloc (.cells #[.bool true] 4) = W2 from hW2.out]
  rw [show w.heap.size = N from hN.out]
  obtain ⟨HS0⟩ : Nonempty (Hid (RS W2 W2.drew N true)) := ⟨⟨(Kept.refl _ _).drew, HW.out.2.2.1⟩⟩
  obtain ⟨HV⟩ : Nonempty (Hid (∀ wr b', RS W2 wr N b' → AttrEnv wr E m ∧ Five wr pb po a b c d e ∧ N + 2 ≤ wr.heap.size)) := ⟨fun wr b' hs => by
    have k : Kept [] w wr := HW.out.2.2.2.trans hs.kept (by intro x hx; simp at hx; right; rw [show w.heap.size = N from hN.out]; omega)
    have kb : Below w.heap.size w wr := k.below (Nat.le_refl _) (by simp)
    exact ⟨HE.out.1.below kb, HE.out.2.1.kept k (by simp), by have := HW.out.1; have := hs.kept.size; omega⟩⟩
  go_cut [6] from 8 (fun s w' => ∃ (X : Nat) (wx : World), s = .pointer (some ⟨X, 0, none⟩) ∧ Hid (RD W2 wx N X xm xb) ∧ wx = w')
  case first J0 K0 hJ0 hK0 =>
    refine wp_region_noPanic ?_
    refine wp_region_held_drew (S := (fun w' => w'.cell? ⟨pb, po, none⟩ = some (.string ⟨a.toArray⟩) ∧ w'.cell? ⟨pb, po + 1, none⟩ = some (.string ⟨b.toArray⟩) ∧ w'.cell? ⟨pb, po + 2, none⟩ = some (.string ⟨c.toArray⟩) ∧ w'.cell? ⟨pb, po + 3, none⟩ = some (.string ⟨d.toArray⟩) ∧ w'.cell? ⟨pb, po + 4, none⟩ = some (.string ⟨e.toArray⟩))) (by kernel_rfl) ?_ (fun hHeld => ?_)
    · exact (HV.out _ _ HS0.out).2.1
    refine wpAnyH_take (i := 0) (v := ?_) rfl (by kernel_rfl) (by kernel_rfl) (by kernel_rfl) (fun _ _ _ h => h) (Or.inl ⟨by rfl, ?_⟩) (by assumption) ?_
    rotate_left
    · (intro w hSw; (try dsimp only at hSw); go_simp; try (with_reducible rfl))
    try simp only [Act.put, List.setIfInBounds_toArray, List.set_cons_zero, List.set_cons_succ, List.getElem_toArray, List.getElem_cons_zero, List.getElem_cons_succ]
    refine wpAnyH_take (i := 1) (v := ?_) rfl (by kernel_rfl) (by kernel_rfl) (by kernel_rfl) (fun _ _ _ h => h) (Or.inl ⟨by rfl, ?_⟩) (by assumption) ?_
    rotate_left
    · (intro w hSw; (try dsimp only at hSw); go_simp; try (with_reducible rfl))
    try simp only [Act.put, List.setIfInBounds_toArray, List.set_cons_zero, List.set_cons_succ, List.getElem_toArray, List.getElem_cons_zero, List.getElem_cons_succ]
    refine wpAnyH_take (i := 2) (v := ?_) rfl (by kernel_rfl) (by kernel_rfl) (by kernel_rfl) (fun _ _ _ h => h) (Or.inl ⟨by rfl, ?_⟩) (by assumption) ?_
    rotate_left
    · (intro w hSw; (try dsimp only at hSw); go_simp; try (with_reducible rfl))
    try simp only [Act.put, List.setIfInBounds_toArray, List.set_cons_zero, List.set_cons_succ, List.getElem_toArray, List.getElem_cons_zero, List.getElem_cons_succ]
    refine wpAnyH_take (i := 3) (v := ?_) rfl (by kernel_rfl) (by kernel_rfl) (by kernel_rfl) (fun _ _ _ h => h) (Or.inl ⟨by rfl, ?_⟩) (by assumption) ?_
    rotate_left
    · (intro w hSw; (try dsimp only at hSw); go_simp; try (with_reducible rfl))
    try simp only [Act.put, List.setIfInBounds_toArray, List.set_cons_zero, List.set_cons_succ, List.getElem_toArray, List.getElem_cons_zero, List.getElem_cons_succ]
    refine wpAnyH_take (i := 5) (v := ?_) rfl (by kernel_rfl) (by kernel_rfl) (by kernel_rfl) (fun _ _ _ h => h) (Or.inl ⟨by rfl, ?_⟩) (by assumption) ?_
    rotate_left
    · (intro w hSw; (try dsimp only at hSw); go_simp; try (with_reducible rfl))
    try simp only [Act.put, List.setIfInBounds_toArray, List.set_cons_zero, List.set_cons_succ, List.getElem_toArray, List.getElem_cons_zero, List.getElem_cons_succ]
    refine wpAnyH_take (i := 6) (v := ?_) rfl (by kernel_rfl) (by kernel_rfl) (by kernel_rfl) (fun _ _ _ h => h) (Or.inl ⟨by rfl, ?_⟩) (by assumption) ?_
    rotate_left
    · (intro w hSw; (try dsimp only at hSw); go_simp; try (with_reducible rfl))
    try simp only [Act.put, List.setIfInBounds_toArray, List.set_cons_zero, List.set_cons_succ, List.getElem_toArray, List.getElem_cons_zero, List.getElem_cons_succ]
    refine wpAnyH_take (i := 7) (v := ?_) rfl (by kernel_rfl) (by kernel_rfl) (by kernel_rfl) (fun _ _ _ h => h) (Or.inl ⟨by rfl, ?_⟩) (by assumption) ?_
    rotate_left
    · (intro w hSw; (try dsimp only at hSw); go_simp; try (with_reducible rfl))
    try simp only [Act.put, List.setIfInBounds_toArray, List.set_cons_zero, List.set_cons_succ, List.getElem_toArray, List.getElem_cons_zero, List.getElem_cons_succ]
    refine wpAnyH_take (i := 8) (v := ?_) rfl (by kernel_rfl) (by kernel_rfl) (by kernel_rfl) (fun _ _ _ h => h) (Or.inl ⟨by rfl, ?_⟩) (by assumption) ?_
    rotate_left
    · (intro w hSw; (try dsimp only at hSw); go_simp; try (with_reducible rfl))
    try simp only [Act.put, List.setIfInBounds_toArray, List.set_cons_zero, List.set_cons_succ, List.getElem_toArray, List.getElem_cons_zero, List.getElem_cons_succ]
    refine wpAnyH_take (i := 10) (v := ?_) rfl (by kernel_rfl) (by kernel_rfl) (by kernel_rfl) (fun _ _ _ h => h) (Or.inl ⟨by rfl, ?_⟩) (by assumption) ?_
    rotate_left
    · (intro w hSw; (try dsimp only at hSw); go_simp; try (with_reducible rfl))
    try simp only [Act.put, List.setIfInBounds_toArray, List.set_cons_zero, List.set_cons_succ, List.getElem_toArray, List.getElem_cons_zero, List.getElem_cons_succ]
    refine wpAnyH_take (i := 11) (v := ?_) rfl (by kernel_rfl) (by kernel_rfl) (by kernel_rfl) (fun _ _ _ h => h) (Or.inl ⟨by rfl, ?_⟩) (by assumption) ?_
    rotate_left
    · (intro w hSw; (try dsimp only at hSw); go_simp; try (with_reducible rfl))
    try simp only [Act.put, List.setIfInBounds_toArray, List.set_cons_zero, List.set_cons_succ, List.getElem_toArray, List.getElem_cons_zero, List.getElem_cons_succ]
    refine wpAnyH_take (i := 12) (v := ?_) rfl (by kernel_rfl) (by kernel_rfl) (by kernel_rfl) (fun _ _ _ h => h) (Or.inl ⟨by rfl, ?_⟩) (by assumption) ?_
    rotate_left
    · (intro w hSw; (try dsimp only at hSw); go_simp; try (with_reducible rfl))
    try simp only [Act.put, List.setIfInBounds_toArray, List.set_cons_zero, List.set_cons_succ, List.getElem_toArray, List.getElem_cons_zero, List.getElem_cons_succ]
    refine wpAnyH_take (i := 13) (v := ?_) rfl (by kernel_rfl) (by kernel_rfl) (by kernel_rfl) (fun _ _ _ h => h) (Or.inl ⟨by rfl, ?_⟩) (by assumption) ?_
    rotate_left
    · (intro w hSw; (try dsimp only at hSw); go_simp; try (with_reducible rfl))
    try simp only [Act.put, List.setIfInBounds_toArray, List.set_cons_zero, List.set_cons_succ, List.getElem_toArray, List.getElem_cons_zero, List.getElem_cons_succ]
    refine wpAnyH_take (i := 15) (v := ?_) rfl (by kernel_rfl) (by kernel_rfl) (by kernel_rfl) (fun _ _ _ h => h) (Or.inl ⟨by rfl, ?_⟩) (by assumption) ?_
    rotate_left
    · (intro w hSw; (try dsimp only at hSw); go_simp; try (with_reducible rfl))
    try simp only [Act.put, List.setIfInBounds_toArray, List.set_cons_zero, List.set_cons_succ, List.getElem_toArray, List.getElem_cons_zero, List.getElem_cons_succ]
    refine wpAnyH_take (i := 16) (v := ?_) rfl (by kernel_rfl) (by kernel_rfl) (by kernel_rfl) (fun _ _ _ h => h) (Or.inl ⟨by rfl, ?_⟩) (by assumption) ?_
    rotate_left
    · (intro w hSw; (try dsimp only at hSw); go_simp; try (with_reducible rfl))
    try simp only [Act.put, List.setIfInBounds_toArray, List.set_cons_zero, List.set_cons_succ, List.getElem_toArray, List.getElem_cons_zero, List.getElem_cons_succ]
    refine wpAnyH_take (i := 17) (v := ?_) rfl (by kernel_rfl) (by kernel_rfl) (by kernel_rfl) (fun _ _ _ h => h) (Or.inl ⟨by rfl, ?_⟩) (by assumption) ?_
    rotate_left
    · (intro w hSw; (try dsimp only at hSw); go_simp; try (with_reducible rfl))
    try simp only [Act.put, List.setIfInBounds_toArray, List.set_cons_zero, List.set_cons_succ, List.getElem_toArray, List.getElem_cons_zero, List.getElem_cons_succ]
    refine wpAnyH_take (i := 18) (v := ?_) rfl (by kernel_rfl) (by kernel_rfl) (by kernel_rfl) (fun _ _ _ h => h) (Or.inl ⟨by rfl, ?_⟩) (by assumption) ?_
    rotate_left
    · (intro w hSw; (try dsimp only at hSw); go_simp; try (with_reducible rfl))
    try simp only [Act.put, List.setIfInBounds_toArray, List.set_cons_zero, List.set_cons_succ, List.getElem_toArray, List.getElem_cons_zero, List.getElem_cons_succ]
    refine wpAnyH_take (i := 20) (v := ?_) rfl (by kernel_rfl) (by kernel_rfl) (by kernel_rfl) (fun _ _ _ h => h) (Or.inl ⟨by rfl, ?_⟩) (by assumption) ?_
    rotate_left
    · (intro w hSw; (try dsimp only at hSw); go_simp; try (with_reducible rfl))
    try simp only [Act.put, List.setIfInBounds_toArray, List.set_cons_zero, List.set_cons_succ, List.getElem_toArray, List.getElem_cons_zero, List.getElem_cons_succ]
    refine wpAnyH_take (i := 21) (v := ?_) rfl (by kernel_rfl) (by kernel_rfl) (by kernel_rfl) (fun _ _ _ h => h) (Or.inl ⟨by rfl, ?_⟩) (by assumption) ?_
    rotate_left
    · (intro w hSw; (try dsimp only at hSw); go_simp; try (with_reducible rfl))
    try simp only [Act.put, List.setIfInBounds_toArray, List.set_cons_zero, List.set_cons_succ, List.getElem_toArray, List.getElem_cons_zero, List.getElem_cons_succ]
    refine wpAnyH_take (i := 22) (v := ?_) rfl (by kernel_rfl) (by kernel_rfl) (by kernel_rfl) (fun _ _ _ h => h) (Or.inl ⟨by rfl, ?_⟩) (by assumption) ?_
    rotate_left
    · (intro w hSw; (try dsimp only at hSw); go_simp; try (with_reducible rfl))
    try simp only [Act.put, List.setIfInBounds_toArray, List.set_cons_zero, List.set_cons_succ, List.getElem_toArray, List.getElem_cons_zero, List.getElem_cons_succ]
    refine wpAnyH_take (i := 23) (v := ?_) rfl (by kernel_rfl) (by kernel_rfl) (by kernel_rfl) (fun _ _ _ h => h) (Or.inl ⟨by rfl, ?_⟩) (by assumption) ?_
    rotate_left
    · (intro w hSw; (try dsimp only at hSw); go_simp; try (with_reducible rfl))
    try simp only [Act.put, List.setIfInBounds_toArray, List.set_cons_zero, List.set_cons_succ, List.getElem_toArray, List.getElem_cons_zero, List.getElem_cons_succ]
    refine wpAnyH_ready (rs := [4, 26]) (by kernel_rfl) (by simp) ?_
    refine AllReadyH.cons rfl (fun K hK => ?_) (AllReadyH.cons rfl (fun K hK => ?_) AllReadyH.nil)
    · skip
      go_simp
      refine (readList_any a 45 (N + 1) _ E m _ (HV.out _ _ HS0.out).1 HS0.out.right HL.out.1).mono ?_
      rintro r w1 ⟨⟨v, rfl, ho⟩, hr1, hk1⟩
      obtain ⟨p0, c0, rfl, hri⟩ := ri_own ho (HV.out _ _ HS0.out).2.2
      obtain ⟨HI1⟩ : Nonempty (Hid (RI _ N p0 _ c0)) := ⟨hri⟩
      obtain ⟨HS1⟩ : Nonempty (Hid (RS W2 w1 N _)) := ⟨HS0.out.step hr1 hk1⟩
      clear hr1 hk1 ho hri
      refine hK.out _ _ ?_ (fun hHeld => ?_)
      · exact (HV.out _ _ HS1.out).2.1
      clear hK K
      try simp only [Act.put, List.setIfInBounds_toArray, List.set_cons_zero, List.set_cons_succ, List.getElem_toArray, List.getElem_cons_zero, List.getElem_cons_succ]
      refine wpAnyH_ready (rs := [9, 26]) (by kernel_rfl) (by simp) ?_
      refine AllReadyH.cons rfl (fun K hK => ?_) (AllReadyH.cons rfl (fun K hK => ?_) AllReadyH.nil)
      · skip
        go_simp
        refine (readIt_any b (N + 1) _ _ HS1.out.right HL.out.2.1).mono ?_
        rintro r w2 ⟨rfl, hr1, hk1⟩
        obtain ⟨HS2⟩ : Nonempty (Hid (RS W2 w2 N _)) := ⟨HS1.out.step hr1 hk1⟩
        obtain ⟨HI2⟩ : Nonempty (Hid (RI _ N p0 _ c0)) := ⟨HI1.out.step hk1 (by simp)⟩
        clear hr1 hk1
        refine hK.out _ _ ?_ (fun hHeld => ?_)
        · exact (HV.out _ _ HS2.out).2.1
        clear hK K
        try simp only [Act.put, List.setIfInBounds_toArray, List.set_cons_zero, List.set_cons_succ, List.getElem_toArray, List.getElem_cons_zero, List.getElem_cons_succ]
        refine wpAnyH_ready (rs := [14, 26]) (by kernel_rfl) (by simp) ?_
        refine AllReadyH.cons rfl (fun K hK => ?_) (AllReadyH.cons rfl (fun K hK => ?_) AllReadyH.nil)
        · skip
          go_simp
          refine (readIt_any c (N + 1) _ _ HS2.out.right HL.out.2.2.1).mono ?_
          rintro r w3 ⟨rfl, hr1, hk1⟩
          obtain ⟨HS3⟩ : Nonempty (Hid (RS W2 w3 N _)) := ⟨HS2.out.step hr1 hk1⟩
          obtain ⟨HI3⟩ : Nonempty (Hid (RI _ N p0 _ c0)) := ⟨HI2.out.step hk1 (by simp)⟩
          clear hr1 hk1
          refine hK.out _ _ ?_ (fun hHeld => ?_)
          · exact (HV.out _ _ HS3.out).2.1
          clear hK K
          try simp only [Act.put, List.setIfInBounds_toArray, List.set_cons_zero, List.set_cons_succ, List.getElem_toArray, List.getElem_cons_zero, List.getElem_cons_succ]
          refine wpAnyH_ready (rs := [19, 26]) (by kernel_rfl) (by simp) ?_
          refine AllReadyH.cons rfl (fun K hK => ?_) (AllReadyH.cons rfl (fun K hK => ?_) AllReadyH.nil)
          · skip
            go_simp
            refine (readIt_any d (N + 1) _ _ HS3.out.right HL.out.2.2.2.1).mono ?_
            rintro r w4 ⟨rfl, hr1, hk1⟩
            obtain ⟨HS4⟩ : Nonempty (Hid (RS W2 w4 N _)) := ⟨HS3.out.step hr1 hk1⟩
            obtain ⟨HI4⟩ : Nonempty (Hid (RI _ N p0 _ c0)) := ⟨HI3.out.step hk1 (by simp)⟩
            clear hr1 hk1
            refine hK.out _ _ ?_ (fun hHeld => ?_)
            · exact (HV.out _ _ HS4.out).2.1
            clear hK K
            try simp only [Act.put, List.setIfInBounds_toArray, List.set_cons_zero, List.set_cons_succ, List.getElem_toArray, List.getElem_cons_zero, List.getElem_cons_succ]
            refine wpAnyH_ready (rs := [24, 26]) (by kernel_rfl) (by simp) ?_
            refine AllReadyH.cons rfl (fun K hK => ?_) (AllReadyH.cons rfl (fun K hK => ?_) AllReadyH.nil)
            · skip
              go_simp
              refine (readList_any e 44 (N + 1) _ E m _ (HV.out _ _ HS4.out).1 HS4.out.right HL.out.2.2.2.2).mono ?_
              rintro r w5 ⟨⟨v, rfl, ho⟩, hr1, hk1⟩
              obtain ⟨p4, c4, rfl, hri⟩ := ri_own ho (HV.out _ _ HS4.out).2.2
              obtain ⟨HJ5⟩ : Nonempty (Hid (RI _ N p4 _ c4)) := ⟨hri⟩
              obtain ⟨HS5⟩ : Nonempty (Hid (RS W2 w5 N _)) := ⟨HS4.out.step hr1 hk1⟩
              obtain ⟨HI5⟩ : Nonempty (Hid (RI _ N p0 _ c0)) := ⟨HI4.out.step hk1 (by simp)⟩
              clear hr1 hk1 ho hri
              refine hK.out _ _ ?_ (fun hHeld => ?_)
              · exact (HV.out _ _ HS5.out).2.1
              clear hK K
              try simp only [Act.put, List.setIfInBounds_toArray, List.set_cons_zero, List.set_cons_succ, List.getElem_toArray, List.getElem_cons_zero, List.getElem_cons_succ]
              refine wpAnyH_take (i := 25) (v := ?_) rfl (by kernel_rfl) (by kernel_rfl) (by kernel_rfl) (fun _ _ _ h => h) (Or.inl ⟨by rfl, ?_⟩) (by assumption) ?_
              rotate_left
              · (intro w hSw; (try dsimp only at hSw); go_simp; try (with_reducible rfl))
              try simp only [Act.put, List.setIfInBounds_toArray, List.set_cons_zero, List.set_cons_succ, List.getElem_toArray, List.getElem_cons_zero, List.getElem_cons_succ]
              refine wpAnyH_ready (rs := [26]) (by kernel_rfl) (by simp) ?_
              refine AllReadyH.cons rfl (fun K hK => ?_) AllReadyH.nil
              go_simp
              refine hK.out _ _ ?_ (fun hHeld => ?_)
              · exact (HV.out _ _ (HS5.out.alloc _)).2.1
              clear hK K
              obtain ⟨X, hX⟩ : ∃ X, Hid (w5.heap.size = X) := ⟨_, show _ = _ from rfl⟩
              obtain ⟨wa, hwa⟩ : ∃ x, Hid (w5.alloc (.cells #[.slice none 0 0, .int .i64 0, .int .i64 0, .int .i64 0, .slice none 0 0] 24) = x) := ⟨_, show _ = _ from rfl⟩
              have hk1 : Kept [N + 1] w5 wa := by rw [← show w5.alloc (.cells #[.slice none 0 0, .int .i64 0, .int .i64 0, .int .i64 0, .slice none 0 0] 24) = wa from hwa.out]; exact (Kept.refl _ (w5)).alloc _
              obtain ⟨HS5x⟩ : Nonempty (Hid (RS W2 wa N _)) := ⟨by rw [← show w5.alloc (.cells #[.slice none 0 0, .int .i64 0, .int .i64 0, .int .i64 0, .slice none 0 0] 24) = wa from hwa.out]; exact HS5.out.alloc _⟩
              obtain ⟨HX5x⟩ : Nonempty (Hid (RX wa N X #[.slice none 0 0, .int .i64 0, .int .i64 0, .int .i64 0, .slice none 0 0])) := ⟨by rw [← show w5.alloc (.cells #[.slice none 0 0, .int .i64 0, .int .i64 0, .int .i64 0, .slice none 0 0] 24) = wa from hwa.out, ← show w5.heap.size = X from hX.out]; exact ⟨Go.heap_alloc_new (w5) _, (HV.out _ _ HS5.out).2.2⟩⟩
              obtain ⟨HI5x⟩ : Nonempty (Hid (RI _ N p0 _ c0)) := ⟨HI5.out.step hk1 (by simp)⟩
              obtain ⟨HJ5x⟩ : Nonempty (Hid (RI _ N p4 _ c4)) := ⟨HJ5.out.step hk1 (by simp)⟩
              rw [show w5.alloc (.cells #[.slice none 0 0, .int .i64 0, .int .i64 0, .int .i64 0, .slice none 0 0] 24) = wa from hwa.out] at hHeld ⊢
              rw [show w5.heap.size = X from hX.out]
              clear hk1 hwa hX
              try simp only [Act.put, List.setIfInBounds_toArray, List.set_cons_zero, List.set_cons_succ, List.getElem_toArray, List.getElem_cons_zero, List.getElem_cons_succ]
              obtain ⟨r0, r1, r2, r3, r4⟩ := HX5x.out.cells
              have y0 := HX5x.out.soft 0
              have y1 := HX5x.out.soft 1
              have y2 := HX5x.out.soft 2
              have y3 := HX5x.out.soft 3
              have y4 := HX5x.out.soft 4
              obtain ⟨wf, hwf⟩ : ∃ x, Hid (((((wa.setCell ⟨X, 0, none⟩ (.slice p0 (unlM 45 a).length c0)).setCell ⟨X, 1, none⟩ (.int .i64 (numOf b))).setCell ⟨X, 2, none⟩ (.int .i64 (numOf c))).setCell ⟨X, 3, none⟩ (.int .i64 (numOf d))).setCell ⟨X, 4, none⟩ (.slice p4 (unlM 44 e).length c4) = x) := ⟨_, show _ = _ from rfl⟩
              obtain ⟨HRD⟩ : Nonempty (Hid (RD W2 wf N X xm xb)) := ⟨by rw [← hxm.out, ← hxb.out, ← hwf.out]; exact rd_end HW.out.1 HS5x.out HX5x.out HI5x.out HJ5x.out⟩
              refine wpAnyH_ready (rs := [27]) (by kernel_rfl) (by simp) ?_
              refine AllReadyH.cons rfl (fun K hK => ?_) AllReadyH.nil
              go_simp
              rw [show ((((wa.setCell ⟨X, 0, none⟩ (.slice p0 (unlM 45 a).length c0)).setCell ⟨X, 1, none⟩ (.int .i64 (numOf b))).setCell ⟨X, 2, none⟩ (.int .i64 (numOf c))).setCell ⟨X, 3, none⟩ (.int .i64 (numOf d))).setCell ⟨X, 4, none⟩ (.slice p4 (unlM 44 e).length c4) = wf from hwf.out]
              refine hK.out _ _ ?_ (fun hHeld => ?_)
              · exact (HV.out _ _ HRD.out.1).2.1
              clear hK K r0 r1 r2 r3 r4 y0 y1 y2 y3 y4
              refine wpAnyH_done (by kernel_rfl) ?_ _
              refine NoPanic.normal ?_
              show K0 _ _
              refine hK0 _ _ (Met.intro (hJ0 _ _ ?_))
              (repeat apply Exists.intro)
              exact ⟨⟨X, wf, rfl, HRD, rfl⟩, rfl⟩
            · skip
              go_simp
              refine hK.out _ _ ?_ (fun hHeld => ?_)
              · exact (HV.out _ _ (HS4.out.alloc _)).2.1
              clear hK K
              obtain ⟨X, hX⟩ : ∃ X, Hid (w4.heap.size = X) := ⟨_, show _ = _ from rfl⟩
              obtain ⟨wa, hwa⟩ : ∃ x, Hid (w4.alloc (.cells #[.slice none 0 0, .int .i64 0, .int .i64 0, .int .i64 0, .slice none 0 0] 24) = x) := ⟨_, show _ = _ from rfl⟩
              have hk1 : Kept [N + 1] w4 wa := by rw [← show w4.alloc (.cells #[.slice none 0 0, .int .i64 0, .int .i64 0, .int .i64 0, .slice none 0 0] 24) = wa from hwa.out]; exact (Kept.refl _ (w4)).alloc _
              obtain ⟨HS4x⟩ : Nonempty (Hid (RS W2 wa N _)) := ⟨by rw [← show w4.alloc (.cells #[.slice none 0 0, .int .i64 0, .int .i64 0, .int .i64 0, .slice none 0 0] 24) = wa from hwa.out]; exact HS4.out.alloc _⟩
              obtain ⟨HX4x⟩ : Nonempty (Hid (RX wa N X #[.slice none 0 0, .int .i64 0, .int .i64 0, .int .i64 0, .slice none 0 0])) := ⟨by rw [← show w4.alloc (.cells #[.slice none 0 0, .int .i64 0, .int .i64 0, .int .i64 0, .slice none 0 0] 24) = wa from hwa.out, ← show w4.heap.size = X from hX.out]; exact ⟨Go.heap_alloc_new (w4) _, (HV.out _ _ HS4.out).2.2⟩⟩
              obtain ⟨HI4x⟩ : Nonempty (Hid (RI _ N p0 _ c0)) := ⟨HI4.out.step hk1 (by simp)⟩
              rw [show w4.alloc (.cells #[.slice none 0 0, .int .i64 0, .int .i64 0, .int .i64 0, .slice none 0 0] 24) = wa from hwa.out] at hHeld ⊢
              rw [show w4.heap.size = X from hX.out]
              clear hk1 hwa hX
              try simp only [Act.put, List.setIfInBounds_toArray, List.set_cons_zero, List.set_cons_succ, List.getElem_toArray, List.getElem_cons_zero, List.getElem_cons_succ]
              refine wpAnyH_ready (rs := [24]) (by kernel_rfl) (by simp) ?_
              refine AllReadyH.cons rfl (fun K hK => ?_) AllReadyH.nil
              go_simp
              refine (readList_any e 44 (N + 1) _ E m _ (HV.out _ _ HS4x.out).1 HS4x.out.right HL.out.2.2.2.2).mono ?_
              rintro r w5 ⟨⟨v, rfl, ho⟩, hr1, hk1⟩
              obtain ⟨p4, c4, rfl, hri⟩ := ri_own ho (HV.out _ _ HS4x.out).2.2
              obtain ⟨HJ5x⟩ : Nonempty (Hid (RI _ N p4 _ c4)) := ⟨hri⟩
              obtain ⟨HS5x⟩ : Nonempty (Hid (RS W2 w5 N _)) := ⟨HS4x.out.step hr1 hk1⟩
              obtain ⟨HI5x⟩ : Nonempty (Hid (RI _ N p0 _ c0)) := ⟨HI4x.out.step hk1 (by simp)⟩
              obtain ⟨HX5x⟩ : Nonempty (Hid (RX _ N X _)) := ⟨HX4x.out.step hk1 (by simp)⟩
              clear hr1 hk1 ho hri
              refine hK.out _ _ ?_ (fun hHeld => ?_)
              · exact (HV.out _ _ HS5x.out).2.1
              clear hK K
              try simp only [Act.put, List.setIfInBounds_toArray, List.set_cons_zero, List.set_cons_succ, List.getElem_toArray, List.getElem_cons_zero, List.getElem_cons_succ]
              refine wpAnyH_take (i := 25) (v := ?_) rfl (by kernel_rfl) (by kernel_rfl) (by kernel_rfl) (fun _ _ _ h => h) (Or.inl ⟨by rfl, ?_⟩) (by assumption) ?_
              rotate_left
              · (intro w hSw; (try dsimp only at hSw); go_simp; try (with_reducible rfl))
              try simp only [Act.put, List.setIfInBounds_toArray, List.set_cons_zero, List.set_cons_succ, List.getElem_toArray, List.getElem_cons_zero, List.getElem_cons_succ]
              obtain ⟨r0, r1, r2, r3, r4⟩ := HX5x.out.cells
              have y0 := HX5x.out.soft 0
              have y1 := HX5x.out.soft 1
              have y2 := HX5x.out.soft 2
              have y3 := HX5x.out.soft 3
              have y4 := HX5x.out.soft 4
              obtain ⟨wf, hwf⟩ : ∃ x, Hid (((((w5.setCell ⟨X, 0, none⟩ (.slice p0 (unlM 45 a).length c0)).setCell ⟨X, 1, none⟩ (.int .i64 (numOf b))).setCell ⟨X, 2, none⟩ (.int .i64 (numOf c))).setCell ⟨X, 3, none⟩ (.int .i64 (numOf d))).setCell ⟨X, 4, none⟩ (.slice p4 (unlM 44 e).length c4) = x) := ⟨_, show _ = _ from rfl⟩
              obtain ⟨HRD⟩ : Nonempty (Hid (RD W2 wf N X xm xb)) := ⟨by rw [← hxm.out, ← hxb.out, ← hwf.out]; exact rd_end HW.out.1 HS5x.out HX5x.out HI5x.out HJ5x.out⟩
              refine wpAnyH_ready (rs := [27]) (by kernel_rfl) (by simp) ?_
              refine AllReadyH.cons rfl (fun K hK => ?_) AllReadyH.nil
              go_simp
              rw [show ((((w5.setCell ⟨X, 0, none⟩ (.slice p0 (unlM 45 a).length c0)).setCell ⟨X, 1, none⟩ (.int .i64 (numOf b))).setCell ⟨X, 2, none⟩ (.int .i64 (numOf c))).setCell ⟨X, 3, none⟩ (.int .i64 (numOf d))).setCell ⟨X, 4, none⟩ (.slice p4 (unlM 44 e).length c4) = wf from hwf.out]
              refine hK.out _ _ ?_ (fun hHeld => ?_)
              · exact (HV.out _ _ HRD.out.1).2.1
              clear hK K r0 r1 r2 r3 r4 y0 y1 y2 y3 y4
              refine wpAnyH_done (by kernel_rfl) ?_ _
              refine NoPanic.normal ?_
              show K0 _ _
              refine hK0 _ _ (Met.intro (hJ0 _ _ ?_))
              (repeat apply Exists.intro)
              exact ⟨⟨X, wf, rfl, HRD, rfl⟩, rfl⟩
          · skip
            go_simp
            refine hK.out _ _ ?_ (fun hHeld => ?_)
            · exact (HV.out _ _ (HS3.out.alloc _)).2.1
            clear hK K
            obtain ⟨X, hX⟩ : ∃ X, Hid (w3.heap.size = X) := ⟨_, show _ = _ from rfl⟩
            obtain ⟨wa, hwa⟩ : ∃ x, Hid (w3.alloc (.cells #[.slice none 0 0, .int .i64 0, .int .i64 0, .int .i64 0, .slice none 0 0] 24) = x) := ⟨_, show _ = _ from rfl⟩
            have hk1 : Kept [N + 1] w3 wa := by rw [← show w3.alloc (.cells #[.slice none 0 0, .int .i64 0, .int .i64 0, .int .i64 0, .slice none 0 0] 24) = wa from hwa.out]; exact (Kept.refl _ (w3)).alloc _
            obtain ⟨HS3x⟩ : Nonempty (Hid (RS W2 wa N _)) := ⟨by rw [← show w3.alloc (.cells #[.slice none 0 0, .int .i64 0, .int .i64 0, .int .i64 0, .slice none 0 0] 24) = wa from hwa.out]; exact HS3.out.alloc _⟩
            obtain ⟨HX3x⟩ : Nonempty (Hid (RX wa N X #[.slice none 0 0, .int .i64 0, .int .i64 0, .int .i64 0, .slice none 0 0])) := ⟨by rw [← show w3.alloc (.cells #[.slice none 0 0, .int .i64 0, .int .i64 0, .int .i64 0, .slice none 0 0] 24) = wa from hwa.out, ← show w3.heap.size = X from hX.out]; exact ⟨Go.heap_alloc_new (w3) _, (HV.out _ _ HS3.out).2.2⟩⟩
            obtain ⟨HI3x⟩ : Nonempty (Hid (RI _ N p0 _ c0)) := ⟨HI3.out.step hk1 (by simp)⟩
            rw [show w3.alloc (.cells #[.slice none 0 0, .int .i64 0, .int .i64 0, .int .i64 0, .slice none 0 0] 24) = wa from hwa.out] at hHeld ⊢
            rw [show w3.heap.size = X from hX.out]
            clear hk1 hwa hX
            try simp only [Act.put, List.setIfInBounds_toArray, List.set_cons_zero, List.set_cons_succ, List.getElem_toArray, List.getElem_cons_zero, List.getElem_cons_succ]
            refine wpAnyH_ready (rs := [19]) (by kernel_rfl) (by simp) ?_
            refine AllReadyH.cons rfl (fun K hK => ?_) AllReadyH.nil
            go_simp
            refine (readIt_any d (N + 1) _ _ HS3x.out.right HL.out.2.2.2.1).mono ?_
            rintro r w4 ⟨rfl, hr1, hk1⟩
            obtain ⟨HS4x⟩ : Nonempty (Hid (RS W2 w4 N _)) := ⟨HS3x.out.step hr1 hk1⟩
            obtain ⟨HI4x⟩ : Nonempty (Hid (RI _ N p0 _ c0)) := ⟨HI3x.out.step hk1 (by simp)⟩
            obtain ⟨HX4x⟩ : Nonempty (Hid (RX _ N X _)) := ⟨HX3x.out.step hk1 (by simp)⟩
            clear hr1 hk1
            refine hK.out _ _ ?_ (fun hHeld => ?_)
            · exact (HV.out _ _ HS4x.out).2.1
            clear hK K
            try simp only [Act.put, List.setIfInBounds_toArray, List.set_cons_zero, List.set_cons_succ, List.getElem_toArray, List.getElem_cons_zero, List.getElem_cons_succ]
            refine wpAnyH_ready (rs := [24]) (by kernel_rfl) (by simp) ?_
            refine AllReadyH.cons rfl (fun K hK => ?_) AllReadyH.nil
            go_simp
            refine (readList_any e 44 (N + 1) _ E m _ (HV.out _ _ HS4x.out).1 HS4x.out.right HL.out.2.2.2.2).mono ?_
            rintro r w5 ⟨⟨v, rfl, ho⟩, hr1, hk1⟩
            obtain ⟨p4, c4, rfl, hri⟩ := ri_own ho (HV.out _ _ HS4x.out).2.2
            obtain ⟨HJ5x⟩ : Nonempty (Hid (RI _ N p4 _ c4)) := ⟨hri⟩
            obtain ⟨HS5x⟩ : Nonempty (Hid (RS W2 w5 N _)) := ⟨HS4x.out.step hr1 hk1⟩
            obtain ⟨HI5x⟩ : Nonempty (Hid (RI _ N p0 _ c0)) := ⟨HI4x.out.step hk1 (by simp)⟩
            obtain ⟨HX5x⟩ : Nonempty (Hid (RX _ N X _)) := ⟨HX4x.out.step hk1 (by simp)⟩
            clear hr1 hk1 ho hri
            refine hK.out _ _ ?_ (fun hHeld => ?_)
            · exact (HV.out _ _ HS5x.out).2.1
            clear hK K
            try simp only [Act.put, List.setIfInBounds_toArray, List.set_cons_zero, List.set_cons_succ, List.getElem_toArray, List.getElem_cons_zero, List.getElem_cons_succ]
            refine wpAnyH_take (i := 25) (v := ?_) rfl (by kernel_rfl) (by kernel_rfl) (by kernel_rfl) (fun _ _ _ h => h) (Or.inl ⟨by rfl, ?_⟩) (by assumption) ?_
            rotate_left
            · (intro w hSw; (try dsimp only at hSw); go_simp; try (with_reducible rfl))
            try simp only [Act.put, List.setIfInBounds_toArray, List.set_cons_zero, List.set_cons_succ, List.getElem_toArray, List.getElem_cons_zero, List.getElem_cons_succ]
            obtain ⟨r0, r1, r2, r3, r4⟩ := HX5x.out.cells
            have y0 := HX5x.out.soft 0
            have y1 := HX5x.out.soft 1
            have y2 := HX5x.out.soft 2
            have y3 := HX5x.out.soft 3
            have y4 := HX5x.out.soft 4
            obtain ⟨wf, hwf⟩ : ∃ x, Hid (((((w5.setCell ⟨X, 0, none⟩ (.slice p0 (unlM 45 a).length c0)).setCell ⟨X, 1, none⟩ (.int .i64 (numOf b))).setCell ⟨X, 2, none⟩ (.int .i64 (numOf c))).setCell ⟨X, 3, none⟩ (.int .i64 (numOf d))).setCell ⟨X, 4, none⟩ (.slice p4 (unlM 44 e).length c4) = x) := ⟨_, show _ = _ from rfl⟩
            obtain ⟨HRD⟩ : Nonempty (Hid (RD W2 wf N X xm xb)) := ⟨by rw [← hxm.out, ← hxb.out, ← hwf.out]; exact rd_end HW.out.1 HS5x.out HX5x.out HI5x.out HJ5x.out⟩
            refine wpAnyH_ready (rs := [27]) (by kernel_rfl) (by simp) ?_
            refine AllReadyH.cons rfl (fun K hK => ?_) AllReadyH.nil
            go_simp
            rw [show ((((w5.setCell ⟨X, 0, none⟩ (.slice p0 (unlM 45 a).length c0)).setCell ⟨X, 1, none⟩ (.int .i64 (numOf b))).setCell ⟨X, 2, none⟩ (.int .i64 (numOf c))).setCell ⟨X, 3, none⟩ (.int .i64 (numOf d))).setCell ⟨X, 4, none⟩ (.slice p4 (unlM 44 e).length c4) = wf from hwf.out]
            refine hK.out _ _ ?_ (fun hHeld => ?_)
            · exact (HV.out _ _ HRD.out.1).2.1
            clear hK K r0 r1 r2 r3 r4 y0 y1 y2 y3 y4
            refine wpAnyH_done (by kernel_rfl) ?_ _
            refine NoPanic.normal ?_
            show K0 _ _
            refine hK0 _ _ (Met.intro (hJ0 _ _ ?_))
            (repeat apply Exists.intro)
            exact ⟨⟨X, wf, rfl, HRD, rfl⟩, rfl⟩
        · skip
          go_simp
          refine hK.out _ _ ?_ (fun hHeld => ?_)
          · exact (HV.out _ _ (HS2.out.alloc _)).2.1
          clear hK K
          obtain ⟨X, hX⟩ : ∃ X, Hid (w2.heap.size = X) := ⟨_, show _ = _ from rfl⟩
          obtain ⟨wa, hwa⟩ : ∃ x, Hid (w2.alloc (.cells #[.slice none 0 0, .int .i64 0, .int .i64 0, .int .i64 0, .slice none 0 0] 24) = x) := ⟨_, show _ = _ from rfl⟩
          have hk1 : Kept [N + 1] w2 wa := by rw [← show w2.alloc (.cells #[.slice none 0 0, .int .i64 0, .int .i64 0, .int .i64 0, .slice none 0 0] 24) = wa from hwa.out]; exact (Kept.refl _ (w2)).alloc _
          obtain ⟨HS2x⟩ : Nonempty (Hid (RS W2 wa N _)) := ⟨by rw [← show w2.alloc (.cells #[.slice none 0 0, .int .i64 0, .int .i64 0, .int .i64 0, .slice none 0 0] 24) = wa from hwa.out]; exact HS2.out.alloc _⟩
          obtain ⟨HX2x⟩ : Nonempty (Hid (RX wa N X #[.slice none 0 0, .int .i64 0, .int .i64 0, .int .i64 0, .slice none 0 0])) := ⟨by rw [← show w2.alloc (.cells #[.slice none 0 0, .int .i64 0, .int .i64 0, .int .i64 0, .slice none 0 0] 24) = wa from hwa.out, ← show w2.heap.size = X from hX.out]; exact ⟨Go.heap_alloc_new (w2) _, (HV.out _ _ HS2.out).2.2⟩⟩
          obtain ⟨HI2x⟩ : Nonempty (Hid (RI _ N p0 _ c0)) := ⟨HI2.out.step hk1 (by simp)⟩
          rw [show w2.alloc (.cells #[.slice none 0 0, .int .i64 0, .int .i64 0, .int .i64 0, .slice none 0 0] 24) = wa from hwa.out] at hHeld ⊢
          rw [show w2.heap.size = X from hX.out]
          clear hk1 hwa hX
          try simp only [Act.put, List.setIfInBounds_toArray, List.set_cons_zero, List.set_cons_succ, List.getElem_toArray, List.getElem_cons_zero, List.getElem_cons_succ]
          refine wpAnyH_ready (rs := [14]) (by kernel_rfl) (by simp) ?_
          refine AllReadyH.cons rfl (fun K hK => ?_) AllReadyH.nil
          go_simp
          refine (readIt_any c (N + 1) _ _ HS2x.out.right HL.out.2.2.1).mono ?_
          rintro r w3 ⟨rfl, hr1, hk1⟩
          obtain ⟨HS3x⟩ : Nonempty (Hid (RS W2 w3 N _)) := ⟨HS2x.out.step hr1 hk1⟩
          obtain ⟨HI3x⟩ : Nonempty (Hid (RI _ N p0 _ c0)) := ⟨HI2x.out.step hk1 (by simp)⟩
          obtain ⟨HX3x⟩ : Nonempty (Hid (RX _ N X _)) := ⟨HX2x.out.step hk1 (by simp)⟩
          clear hr1 hk1
          refine hK.out _ _ ?_ (fun hHeld => ?_)
          · exact (HV.out _ _ HS3x.out).2.1
          clear hK K
          try simp only [Act.put, List.setIfInBounds_toArray, List.set_cons_zero, List.set_cons_succ, List.getElem_toArray, List.getElem_cons_zero, List.getElem_cons_succ]
          refine wpAnyH_ready (rs := [19]) (by kernel_rfl) (by simp) ?_
          refine AllReadyH.cons rfl (fun K hK => ?_) AllReadyH.nil
          go_simp
          refine (readIt_any d (N + 1) _ _ HS3x.out.right HL.out.2.2.2.1).mono ?_
          rintro r w4 ⟨rfl, hr1, hk1⟩
          obtain ⟨HS4x⟩ : Nonempty (Hid (RS W2 w4 N _)) := ⟨HS3x.out.step hr1 hk1⟩
          obtain ⟨HI4x⟩ : Nonempty (Hid (RI _ N p0 _ c0)) := ⟨HI3x.out.step hk1 (by simp)⟩
          obtain ⟨HX4x⟩ : Nonempty (Hid (RX _ N X _)) := ⟨HX3x.out.step hk1 (by simp)⟩
          clear hr1 hk1
          refine hK.out _ _ ?_ (fun hHeld => ?_)
          · exact (HV.out _ _ HS4x.out).2.1
          clear hK K
          try simp only [Act.put, List.setIfInBounds_toArray, List.set_cons_zero, List.set_cons_succ, List.getElem_toArray, List.getElem_cons_zero, List.getElem_cons_succ]
          refine wpAnyH_ready (rs := [24]) (by kernel_rfl) (by simp) ?_
          refine AllReadyH.cons rfl (fun K hK => ?_) AllReadyH.nil
          go_simp
          refine (readList_any e 44 (N + 1) _ E m _ (HV.out _ _ HS4x.out).1 HS4x.out.right HL.out.2.2.2.2).mono ?_
          rintro r w5 ⟨⟨v, rfl, ho⟩, hr1, hk1⟩
          obtain ⟨p4, c4, rfl, hri⟩ := ri_own ho (HV.out _ _ HS4x.out).2.2
          obtain ⟨HJ5x⟩ : Nonempty (Hid (RI _ N p4 _ c4)) := ⟨hri⟩
          obtain ⟨HS5x⟩ : Nonempty (Hid (RS W2 w5 N _)) := ⟨HS4x.out.step hr1 hk1⟩
          obtain ⟨HI5x⟩ : Nonempty (Hid (RI _ N p0 _ c0)) := ⟨HI4x.out.step hk1 (by simp)⟩
          obtain ⟨HX5x⟩ : Nonempty (Hid (RX _ N X _)) := ⟨HX4x.out.step hk1 (by simp)⟩
          clear hr1 hk1 ho hri
          refine hK.out _ _ ?_ (fun hHeld => ?_)
          · exact (HV.out _ _ HS5x.out).2.1
          clear hK K
          try simp only [Act.put, List.setIfInBounds_toArray, List.set_cons_zero, List.set_cons_succ, List.getElem_toArray, List.getElem_cons_zero, List.getElem_cons_succ]
          refine wpAnyH_take (i := 25) (v := ?_) rfl (by kernel_rfl) (by kernel_rfl) (by kernel_rfl) (fun _ _ _ h => h) (Or.inl ⟨by rfl, ?_⟩) (by assumption) ?_
          rotate_left
          · (intro w hSw; (try dsimp only at hSw); go_simp; try (with_reducible rfl))
          try simp only [Act.put, List.setIfInBounds_toArray, List.set_cons_zero, List.set_cons_succ, List.getElem_toArray, List.getElem_cons_zero, List.getElem_cons_succ]
          obtain ⟨r0, r1, r2, r3, r4⟩ := HX5x.out.cells
          have y0 := HX5x.out.soft 0
          have y1 := HX5x.out.soft 1
          have y2 := HX5x.out.soft 2
          have y3 := HX5x.out.soft 3
          have y4 := HX5x.out.soft 4
          obtain ⟨wf, hwf⟩ : ∃ x, Hid (((((w5.setCell ⟨X, 0, none⟩ (.slice p0 (unlM 45 a).length c0)).setCell ⟨X, 1, none⟩ (.int .i64 (numOf b))).setCell ⟨X, 2, none⟩ (.int .i64 (numOf c))).setCell ⟨X, 3, none⟩ (.int .i64 (numOf d))).setCell ⟨X, 4, none⟩ (.slice p4 (unlM 44 e).length c4) = x) := ⟨_, show _ = _ from rfl⟩
          obtain ⟨HRD⟩ : Nonempty (Hid (RD W2 wf N X xm xb)) := ⟨by rw [← hxm.out, ← hxb.out, ← hwf.out]; exact rd_end HW.out.1 HS5x.out HX5x.out HI5x.out HJ5x.out⟩
          refine wpAnyH_ready (rs := [27]) (by kernel_rfl) (by simp) ?_
          refine AllReadyH.cons rfl (fun K hK => ?_) AllReadyH.nil
          go_simp
          rw [show ((((w5.setCell ⟨X, 0, none⟩ (.slice p0 (unlM 45 a).length c0)).setCell ⟨X, 1, none⟩ (.int .i64 (numOf b))).setCell ⟨X, 2, none⟩ (.int .i64 (numOf c))).setCell ⟨X, 3, none⟩ (.int .i64 (numOf d))).setCell ⟨X, 4, none⟩ (.slice p4 (unlM 44 e).length c4) = wf from hwf.out]
          refine hK.out _ _ ?_ (fun hHeld => ?_)
          · exact (HV.out _ _ HRD.out.1).2.1
          clear hK K r0 r1 r2 r3 r4 y0 y1 y2 y3 y4
          refine wpAnyH_done (by kernel_rfl) ?_ _
          refine NoPanic.normal ?_
          show K0 _ _
          refine hK0 _ _ (Met.intro (hJ0 _ _ ?_))
          (repeat apply Exists.intro)
          exact ⟨⟨X, wf, rfl, HRD, rfl⟩, rfl⟩
      · skip
        go_simp
        refine hK.out _ _ ?_ (fun hHeld => ?_)
        · exact (HV.out _ _ (HS1.out.alloc _)).2.1
        clear hK K
        obtain ⟨X, hX⟩ : ∃ X, Hid (w1.heap.size = X) := ⟨_, show _ = _ from rfl⟩
        obtain ⟨wa, hwa⟩ : ∃ x, Hid (w1.alloc (.cells #[.slice none 0 0, .int .i64 0, .int .i64 0, .int .i64 0, .slice none 0 0] 24) = x) := ⟨_, show _ = _ from rfl⟩
        have hk1 : Kept [N + 1] w1 wa := by rw [← show w1.alloc (.cells #[.slice none 0 0, .int .i64 0, .int .i64 0, .int .i64 0, .slice none 0 0] 24) = wa from hwa.out]; exact (Kept.refl _ (w1)).alloc _
        obtain ⟨HS1x⟩ : Nonempty (Hid (RS W2 wa N _)) := ⟨by rw [← show w1.alloc (.cells #[.slice none 0 0, .int .i64 0, .int .i64 0, .int .i64 0, .slice none 0 0] 24) = wa from hwa.out]; exact HS1.out.alloc _⟩
        obtain ⟨HX1x⟩ : Nonempty (Hid (RX wa N X #[.slice none 0 0, .int .i64 0, .int .i64 0, .int .i64 0, .slice none 0 0])) := ⟨by rw [← show w1.alloc (.cells #[.slice none 0 0, .int .i64 0, .int .i64 0, .int .i64 0, .slice none 0 0] 24) = wa from hwa.out, ← show w1.heap.size = X from hX.out]; exact ⟨Go.heap_alloc_new (w1) _, (HV.out _ _ HS1.out).2.2⟩⟩
        obtain ⟨HI1x⟩ : Nonempty (Hid (RI _ N p0 _ c0)) := ⟨HI1.out.step hk1 (by simp)⟩
        rw [show w1.alloc (.cells #[.slice none 0 0, .int .i64 0, .int .i64 0, .int .i64 0, .slice none 0 0] 24) = wa from hwa.out] at hHeld ⊢
        rw [show w1.heap.size = X from hX.out]
        clear hk1 hwa hX
        try simp only [Act.put, List.setIfInBounds_toArray, List.set_cons_zero, List.set_cons_succ, List.getElem_toArray, List.getElem_cons_zero, List.getElem_cons_succ]
        refine wpAnyH_ready (rs := [9]) (by kernel_rfl) (by simp) ?_
        refine AllReadyH.cons rfl (fun K hK => ?_) AllReadyH.nil
        go_simp
        refine (readIt_any b (N + 1) _ _ HS1x.out.right HL.out.2.1).mono ?_
        rintro r w2 ⟨rfl, hr1, hk1⟩
        obtain ⟨HS2x⟩ : Nonempty (Hid (RS W2 w2 N _)) := ⟨HS1x.out.step hr1 hk1⟩
        obtain ⟨HI2x⟩ : Nonempty (Hid (RI _ N p0 _ c0)) := ⟨HI1x.out.step hk1 (by simp)⟩
        obtain ⟨HX2x⟩ : Nonempty (Hid (RX _ N X _)) := ⟨HX1x.out.step hk1 (by simp)⟩
        clear hr1 hk1
        refine hK.out _ _ ?_ (fun hHeld => ?_)
        · exact (HV.out _ _ HS2x.out).2.1
        clear hK K
        try simp only [Act.put, List.setIfInBounds_toArray, List.set_cons_zero, List.set_cons_succ, List.getElem_toArray, List.getElem_cons_zero, List.getElem_cons_succ]
        refine wpAnyH_ready (rs := [14]) (by kernel_rfl) (by simp) ?_
        refine AllReadyH.cons rfl (fun K hK => ?_) AllReadyH.nil
        go_simp
        refine (readIt_any c (N + 1) _ _ HS2x.out.right HL.out.2.2.1).mono ?_
        rintro r w3 ⟨rfl, hr1, hk1⟩
        obtain ⟨HS3x⟩ : Nonempty (Hid (RS W2 w3 N _)) := ⟨HS2x.out.step hr1 hk1⟩
        obtain ⟨HI3x⟩ : Nonempty (Hid (RI _ N p0 _ c0)) := ⟨HI2x.out.step hk1 (by simp)⟩
        obtain ⟨HX3x⟩ : Nonempty (Hid (RX _ N X _)) := ⟨HX2x.out.step hk1 (by simp)⟩
        clear hr1 hk1
        refine hK.out _ _ ?_ (fun hHeld => ?_)
        · exact (HV.out _ _ HS3x.out).2.1
        clear hK K
        try simp only [Act.put, List.setIfInBounds_toArray, List.set_cons_zero, List.set_cons_succ, List.getElem_toArray, List.getElem_cons_zero, List.getElem_cons_succ]
        refine wpAnyH_ready (rs := [19]) (by kernel_rfl) (by simp) ?_
        refine AllReadyH.cons rfl (fun K hK => ?_) AllReadyH.nil
        go_simp
        refine (readIt_any d (N + 1) _ _ HS3x.out.right HL.out.2.2.2.1).mono ?_
        rintro r w4 ⟨rfl, hr1, hk1⟩
        obtain ⟨HS4x⟩ : Nonempty (Hid (RS W2 w4 N _)) := ⟨HS3x.out.step hr1 hk1⟩
        obtain ⟨HI4x⟩ : Nonempty (Hid (RI _ N p0 _ c0)) := ⟨HI3x.out.step hk1 (by simp)⟩
        obtain ⟨HX4x⟩ : Nonempty (Hid (RX _ N X _)) := ⟨HX3x.out.step hk1 (by simp)⟩
        clear hr1 hk1
        refine hK.out _ _ ?_ (fun hHeld => ?_)
        · exact (HV.out _ _ HS4x.out).2.1
        clear hK K
        try simp only [Act.put, List.setIfInBounds_toArray, List.set_cons_zero, List.set_cons_succ, List.getElem_toArray, List.getElem_cons_zero, List.getElem_cons_succ]
        refine wpAnyH_ready (rs := [24]) (by kernel_rfl) (by simp) ?_
        refine AllReadyH.cons rfl (fun K hK => ?_) AllReadyH.nil
        go_simp
        refine (readList_any e 44 (N + 1) _ E m _ (HV.out _ _ HS4x.out).1 HS4x.out.right HL.out.2.2.2.2).mono ?_
        rintro r w5 ⟨⟨v, rfl, ho⟩, hr1, hk1⟩
        obtain ⟨p4, c4, rfl, hri⟩ := ri_own ho (HV.out _ _ HS4x.out).2.2
        obtain ⟨HJ5x⟩ : Nonempty (Hid (RI _ N p4 _ c4)) := ⟨hri⟩
        obtain ⟨HS5x⟩ : Nonempty (Hid (RS W2 w5 N _)) := ⟨HS4x.out.step hr1 hk1⟩
        obtain ⟨HI5x⟩ : Nonempty (Hid (RI _ N p0 _ c0)) := ⟨HI4x.out.step hk1 (by simp)⟩
        obtain ⟨HX5x⟩ : Nonempty (Hid (RX _ N X _)) := ⟨HX4x.out.step hk1 (by simp)⟩
        clear hr1 hk1 ho hri
        refine hK.out _ _ ?_ (fun hHeld => ?_)
        · exact (HV.out _ _ HS5x.out).2.1
        clear hK K
        try simp only [Act.put, List.setIfInBounds_toArray, List.set_cons_zero, List.set_cons_succ, List.getElem_toArray, List.getElem_cons_zero, List.getElem_cons_succ]
        refine wpAnyH_take (i := 25) (v := ?_) rfl (by kernel_rfl) (by kernel_rfl) (by kernel_rfl) (fun _ _ _ h => h) (Or.inl ⟨by rfl, ?_⟩) (by assumption) ?_
        rotate_left
        · (intro w hSw; (try dsimp only at hSw); go_simp; try (with_reducible rfl))
        try simp only [Act.put, List.setIfInBounds_toArray, List.set_cons_zero, List.set_cons_succ, List.getElem_toArray, List.getElem_cons_zero, List.getElem_cons_succ]
        obtain ⟨r0, r1, r2, r3, r4⟩ := HX5x.out.cells
        have y0 := HX5x.out.soft 0
        have y1 := HX5x.out.soft 1
        have y2 := HX5x.out.soft 2
        have y3 := HX5x.out.soft 3
        have y4 := HX5x.out.soft 4
        obtain ⟨wf, hwf⟩ : ∃ x, Hid (((((w5.setCell ⟨X, 0, none⟩ (.slice p0 (unlM 45 a).length c0)).setCell ⟨X, 1, none⟩ (.int .i64 (numOf b))).setCell ⟨X, 2, none⟩ (.int .i64 (numOf c))).setCell ⟨X, 3, none⟩ (.int .i64 (numOf d))).setCell ⟨X, 4, none⟩ (.slice p4 (unlM 44 e).length c4) = x) := ⟨_, show _ = _ from rfl⟩
        obtain ⟨HRD⟩ : Nonempty (Hid (RD W2 wf N X xm xb)) := ⟨by rw [← hxm.out, ← hxb.out, ← hwf.out]; exact rd_end HW.out.1 HS5x.out HX5x.out HI5x.out HJ5x.out⟩
        refine wpAnyH_ready (rs := [27]) (by kernel_rfl) (by simp) ?_
        refine AllReadyH.cons rfl (fun K hK => ?_) AllReadyH.nil
        go_simp
        rw [show ((((w5.setCell ⟨X, 0, none⟩ (.slice p0 (unlM 45 a).length c0)).setCell ⟨X, 1, none⟩ (.int .i64 (numOf b))).setCell ⟨X, 2, none⟩ (.int .i64 (numOf c))).setCell ⟨X, 3, none⟩ (.int .i64 (numOf d))).setCell ⟨X, 4, none⟩ (.slice p4 (unlM 44 e).length c4) = wf from hwf.out]
        refine hK.out _ _ ?_ (fun hHeld => ?_)
        · exact (HV.out _ _ HRD.out.1).2.1
        clear hK K r0 r1 r2 r3 r4 y0 y1 y2 y3 y4
        refine wpAnyH_done (by kernel_rfl) ?_ _
        refine NoPanic.normal ?_
        show K0 _ _
        refine hK0 _ _ (Met.intro (hJ0 _ _ ?_))
        (repeat apply Exists.intro)
        exact ⟨⟨X, wf, rfl, HRD, rfl⟩, rfl⟩
    · skip
      go_simp
      refine hK.out _ _ ?_ (fun hHeld => ?_)
      · exact (HV.out _ _ (HS0.out.alloc _)).2.1
      clear hK K
      obtain ⟨X, hX⟩ : ∃ X, Hid (W2.drew.heap.size = X) := ⟨_, show _ = _ from rfl⟩
      obtain ⟨wa, hwa⟩ : ∃ x, Hid ((W2.alloc (.cells #[.slice none 0 0, .int .i64 0, .int .i64 0, .int .i64 0, .slice none 0 0] 24)).drew = x) := ⟨_, show _ = _ from rfl⟩
      have hk1 : Kept [N + 1] W2.drew wa := by rw [← show (W2.alloc (.cells #[.slice none 0 0, .int .i64 0, .int .i64 0, .int .i64 0, .slice none 0 0] 24)).drew = wa from hwa.out]; exact (Kept.refl _ (W2.drew)).alloc _
      obtain ⟨HS0x⟩ : Nonempty (Hid (RS W2 wa N _)) := ⟨by rw [← show (W2.alloc (.cells #[.slice none 0 0, .int .i64 0, .int .i64 0, .int .i64 0, .slice none 0 0] 24)).drew = wa from hwa.out]; exact HS0.out.alloc _⟩
      obtain ⟨HX0x⟩ : Nonempty (Hid (RX wa N X #[.slice none 0 0, .int .i64 0, .int .i64 0, .int .i64 0, .slice none 0 0])) := ⟨by rw [← show (W2.alloc (.cells #[.slice none 0 0, .int .i64 0, .int .i64 0, .int .i64 0, .slice none 0 0] 24)).drew = wa from hwa.out, ← show W2.drew.heap.size = X from hX.out]; exact ⟨Go.heap_alloc_new (W2.drew) _, (HV.out _ _ HS0.out).2.2⟩⟩
      rw [show (W2.alloc (.cells #[.slice none 0 0, .int .i64 0, .int .i64 0, .int .i64 0, .slice none 0 0] 24)).drew = wa from hwa.out] at hHeld ⊢
      rw [show W2.heap.size = X from hX.out]
      clear hk1 hwa hX
      try simp only [Act.put, List.setIfInBounds_toArray, List.set_cons_zero, List.set_cons_succ, List.getElem_toArray, List.getElem_cons_zero, List.getElem_cons_succ]
      refine wpAnyH_ready (rs := [4]) (by kernel_rfl) (by simp) ?_
      refine AllReadyH.cons rfl (fun K hK => ?_) AllReadyH.nil
      go_simp
      refine (readList_any a 45 (N + 1) _ E m _ (HV.out _ _ HS0x.out).1 HS0x.out.right HL.out.1).mono ?_
      rintro r w1 ⟨⟨v, rfl, ho⟩, hr1, hk1⟩
      obtain ⟨p0, c0, rfl, hri⟩ := ri_own ho (HV.out _ _ HS0x.out).2.2
      obtain ⟨HI1x⟩ : Nonempty (Hid (RI _ N p0 _ c0)) := ⟨hri⟩
      obtain ⟨HS1x⟩ : Nonempty (Hid (RS W2 w1 N _)) := ⟨HS0x.out.step hr1 hk1⟩
      obtain ⟨HX1x⟩ : Nonempty (Hid (RX _ N X _)) := ⟨HX0x.out.step hk1 (by simp)⟩
      clear hr1 hk1 ho hri
      refine hK.out _ _ ?_ (fun hHeld => ?_)
      · exact (HV.out _ _ HS1x.out).2.1
      clear hK K
      try simp only [Act.put, List.setIfInBounds_toArray, List.set_cons_zero, List.set_cons_succ, List.getElem_toArray, List.getElem_cons_zero, List.getElem_cons_succ]
      refine wpAnyH_ready (rs := [9]) (by kernel_rfl) (by simp) ?_
      refine AllReadyH.cons rfl (fun K hK => ?_) AllReadyH.nil
      go_simp
      refine (readIt_any b (N + 1) _ _ HS1x.out.right HL.out.2.1).mono ?_
      rintro r w2 ⟨rfl, hr1, hk1⟩
      obtain ⟨HS2x⟩ : Nonempty (Hid (RS W2 w2 N _)) := ⟨HS1x.out.step hr1 hk1⟩
      obtain ⟨HI2x⟩ : Nonempty (Hid (RI _ N p0 _ c0)) := ⟨HI1x.out.step hk1 (by simp)⟩
      obtain ⟨HX2x⟩ : Nonempty (Hid (RX _ N X _)) := ⟨HX1x.out.step hk1 (by simp)⟩
      clear hr1 hk1
      refine hK.out _ _ ?_ (fun hHeld => ?_)
      · exact (HV.out _ _ HS2x.out).2.1
      clear hK K
      try simp only [Act.put, List.setIfInBounds_toArray, List.set_cons_zero, List.set_cons_succ, List.getElem_toArray, List.getElem_cons_zero, List.getElem_cons_succ]
      refine wpAnyH_ready (rs := [14]) (by kernel_rfl) (by simp) ?_
      refine AllReadyH.cons rfl (fun K hK => ?_) AllReadyH.nil
      go_simp
      refine (readIt_any c (N + 1) _ _ HS2x.out.right HL.out.2.2.1).mono ?_
      rintro r w3 ⟨rfl, hr1, hk1⟩
      obtain ⟨HS3x⟩ : Nonempty (Hid (RS W2 w3 N _)) := ⟨HS2x.out.step hr1 hk1⟩
      obtain ⟨HI3x⟩ : Nonempty (Hid (RI _ N p0 _ c0)) := ⟨HI2x.out.step hk1 (by simp)⟩
      obtain ⟨HX3x⟩ : Nonempty (Hid (RX _ N X _)) := ⟨HX2x.out.step hk1 (by simp)⟩
      clear hr1 hk1
      refine hK.out _ _ ?_ (fun hHeld => ?_)
      · exact (HV.out _ _ HS3x.out).2.1
      clear hK K
      try simp only [Act.put, List.setIfInBounds_toArray, List.set_cons_zero, List.set_cons_succ, List.getElem_toArray, List.getElem_cons_zero, List.getElem_cons_succ]
      refine wpAnyH_ready (rs := [19]) (by kernel_rfl) (by simp) ?_
      refine AllReadyH.cons rfl (fun K hK => ?_) AllReadyH.nil
      go_simp
      refine (readIt_any d (N + 1) _ _ HS3x.out.right HL.out.2.2.2.1).mono ?_
      rintro r w4 ⟨rfl, hr1, hk1⟩
      obtain ⟨HS4x⟩ : Nonempty (Hid (RS W2 w4 N _)) := ⟨HS3x.out.step hr1 hk1⟩
      obtain ⟨HI4x⟩ : Nonempty (Hid (RI _ N p0 _ c0)) := ⟨HI3x.out.step hk1 (by simp)⟩
      obtain ⟨HX4x⟩ : Nonempty (Hid (RX _ N X _)) := ⟨HX3x.out.step hk1 (by simp)⟩
      clear hr1 hk1
      refine hK.out _ _ ?_ (fun hHeld => ?_)
      · exact (HV.out _ _ HS4x.out).2.1
      clear hK K
      try simp only [Act.put, List.setIfInBounds_toArray, List.set_cons_zero, List.set_cons_succ, List.getElem_toArray, List.getElem_cons_zero, List.getElem_cons_succ]
      refine wpAnyH_ready (rs := [24]) (by kernel_rfl) (by simp) ?_
      refine AllReadyH.cons rfl (fun K hK => ?_) AllReadyH.nil
      go_simp
      refine (readList_any e 44 (N + 1) _ E m _ (HV.out _ _ HS4x.out).1 HS4x.out.right HL.out.2.2.2.2).mono ?_
      rintro r w5 ⟨⟨v, rfl, ho⟩, hr1, hk1⟩
      obtain ⟨p4, c4, rfl, hri⟩ := ri_own ho (HV.out _ _ HS4x.out).2.2
      obtain ⟨HJ5x⟩ : Nonempty (Hid (RI _ N p4 _ c4)) := ⟨hri⟩
      obtain ⟨HS5x⟩ : Nonempty (Hid (RS W2 w5 N _)) := ⟨HS4x.out.step hr1 hk1⟩
      obtain ⟨HI5x⟩ : Nonempty (Hid (RI _ N p0 _ c0)) := ⟨HI4x.out.step hk1 (by simp)⟩
      obtain ⟨HX5x⟩ : Nonempty (Hid (RX _ N X _)) := ⟨HX4x.out.step hk1 (by simp)⟩
      clear hr1 hk1 ho hri
      refine hK.out _ _ ?_ (fun hHeld => ?_)
      · exact (HV.out _ _ HS5x.out).2.1
      clear hK K
      try simp only [Act.put, List.setIfInBounds_toArray, List.set_cons_zero, List.set_cons_succ, List.getElem_toArray, List.getElem_cons_zero, List.getElem_cons_succ]
      refine wpAnyH_take (i := 25) (v := ?_) rfl (by kernel_rfl) (by kernel_rfl) (by kernel_rfl) (fun _ _ _ h => h) (Or.inl ⟨by rfl, ?_⟩) (by assumption) ?_
      rotate_left
      · (intro w hSw; (try dsimp only at hSw); go_simp; try (with_reducible rfl))
      try simp only [Act.put, List.setIfInBounds_toArray, List.set_cons_zero, List.set_cons_succ, List.getElem_toArray, List.getElem_cons_zero, List.getElem_cons_succ]
      obtain ⟨r0, r1, r2, r3, r4⟩ := HX5x.out.cells
      have y0 := HX5x.out.soft 0
      have y1 := HX5x.out.soft 1
      have y2 := HX5x.out.soft 2
      have y3 := HX5x.out.soft 3
      have y4 := HX5x.out.soft 4
      obtain ⟨wf, hwf⟩ : ∃ x, Hid (((((w5.setCell ⟨X, 0, none⟩ (.slice p0 (unlM 45 a).length c0)).setCell ⟨X, 1, none⟩ (.int .i64 (numOf b))).setCell ⟨X, 2, none⟩ (.int .i64 (numOf c))).setCell ⟨X, 3, none⟩ (.int .i64 (numOf d))).setCell ⟨X, 4, none⟩ (.slice p4 (unlM 44 e).length c4) = x) := ⟨_, show _ = _ from rfl⟩
      obtain ⟨HRD⟩ : Nonempty (Hid (RD W2 wf N X xm xb)) := ⟨by rw [← hxm.out, ← hxb.out, ← hwf.out]; exact rd_end HW.out.1 HS5x.out HX5x.out HI5x.out HJ5x.out⟩
      refine wpAnyH_ready (rs := [27]) (by kernel_rfl) (by simp) ?_
      refine AllReadyH.cons rfl (fun K hK => ?_) AllReadyH.nil
      go_simp
      rw [show ((((w5.setCell ⟨X, 0, none⟩ (.slice p0 (unlM 45 a).length c0)).setCell ⟨X, 1, none⟩ (.int .i64 (numOf b))).setCell ⟨X, 2, none⟩ (.int .i64 (numOf c))).setCell ⟨X, 3, none⟩ (.int .i64 (numOf d))).setCell ⟨X, 4, none⟩ (.slice p4 (unlM 44 e).length c4) = wf from hwf.out]
      refine hK.out _ _ ?_ (fun hHeld => ?_)
      · exact (HV.out _ _ HRD.out.1).2.1
      clear hK K r0 r1 r2 r3 r4 y0 y1 y2 y3 y4
      refine wpAnyH_done (by kernel_rfl) ?_ _
      refine NoPanic.normal ?_
      show K0 _ _
      refine hK0 _ _ (Met.intro (hJ0 _ _ ?_))
      (repeat apply Exists.intro)
      exact ⟨⟨X, wf, rfl, HRD, rfl⟩, rfl⟩
  case rest =>
    as_aux_lemma =>
    obtain ⟨X, wx, rfl, HRD, hX⟩ := hcut
    subst hX
    obtain ⟨hS, p0, c0, p4, c4, hx, i0, i4⟩ := HRD.out
    obtain ⟨r0, r1, r2, r3, r4⟩ := hx.cells
    obtain ⟨t0, t1⟩ := hS.right.cell
    have hn : wx.heap[N]? = some (.cells #[.slice none 0 0, .int .i64 0, .int .i64 0, .int .i64 0, .slice none 0 0] 24 (0, 0)) := hS.kept.heap HW.out.2.1 (by simp)
    obtain ⟨HN0⟩ : Nonempty (Hid (wx.heap[N]? = some (.cells #[.slice none 0 0, .int .i64 0, .int .i64 0, .int .i64 0, .slice none 0 0] 24 (0, 0)) ∧ RI wx N p0 xm.path c0 ∧ RI wx N p4 xm.tags c4 ∧ Below N w wx ∧ N ≤ wx.heap.size)) := ⟨⟨hn, i0, i4, by
      have k : Kept [] w wx := HW.out.2.2.2.trans hS.kept (by intro x hx; simp at hx; right; rw [show w.heap.size = N from hN.out]; omega)
      exact k.below (by rw [show w.heap.size = N from hN.out]; exact Nat.le_refl _) (by simp), by have := hS.kept.size; have := HW.out.1; omega⟩⟩
    have z0 : wx.cell? ⟨N, 0, none⟩ = some (.slice none 0 0) := by simp [World.cell?, hn]
    have z1 : wx.cell? ⟨N, 1, none⟩ = some (.int .i64 0) := by simp [World.cell?, hn]
    have z2 : wx.cell? ⟨N, 2, none⟩ = some (.int .i64 0) := by simp [World.cell?, hn]
    have z3 : wx.cell? ⟨N, 3, none⟩ = some (.int .i64 0) := by simp [World.cell?, hn]
    have z4 : wx.cell? ⟨N, 4, none⟩ = some (.slice none 0 0) := by simp [World.cell?, hn]
    have f0 : wx.frozen? ⟨N, 0, none⟩ = false := by simp [World.frozen?, hn]
    have f1 : wx.frozen? ⟨N, 1, none⟩ = false := by simp [World.frozen?, hn]
    have f2 : wx.frozen? ⟨N, 2, none⟩ = false := by simp [World.frozen?, hn]
    have f3 : wx.frozen? ⟨N, 3, none⟩ = false := by simp [World.frozen?, hn]
    have f4 : wx.frozen? ⟨N, 4, none⟩ = false := by simp [World.frozen?, hn]
    obtain ⟨P, f, n, o, T⟩ := xm
    simp only at *
    obtain ⟨wf, hwf⟩ : ∃ x, Hid ((((((wx.setCell ⟨N, 0, none⟩ (.slice p0 P.length c0)).setCell ⟨N, 1, none⟩ (.int .i64 f)).setCell ⟨N, 2, none⟩ (.int .i64 n)).setCell ⟨N, 3, none⟩ (.int .i64 o)).setCell ⟨N, 4, none⟩ (.slice p4 T.length c4)).drew = x) := ⟨_, show _ = _ from rfl⟩
    obtain ⟨HF⟩ : Nonempty (Hid (Kept [N] wx wf ∧ wf.cell? ⟨N, 0, none⟩ = some (.slice p0 P.length c0) ∧ wf.cell? ⟨N, 1, none⟩ = some (.int .i64 f) ∧ wf.cell? ⟨N, 2, none⟩ = some (.int .i64 n) ∧ wf.cell? ⟨N, 3, none⟩ = some (.int .i64 o) ∧ wf.cell? ⟨N, 4, none⟩ = some (.slice p4 T.length c4))) := ⟨by
      rw [← show (((((wx.setCell ⟨N, 0, none⟩ (.slice p0 P.length c0)).setCell ⟨N, 1, none⟩ (.int .i64 f)).setCell ⟨N, 2, none⟩ (.int .i64 n)).setCell ⟨N, 3, none⟩ (.int .i64 o)).setCell ⟨N, 4, none⟩ (.slice p4 T.length c4)).drew = wf from hwf.out]
      exact ⟨five_kept wx N _ _ _ _ _, (five_set hn _ _ _ _ _).cells⟩⟩
    have HSS : Hid ((fun w' => w'.cell? ⟨X, 0, none⟩ = some (.slice p0 P.length c0) ∧ w'.cell? ⟨X, 1, none⟩ = some (.int .i64 f) ∧ w'.cell? ⟨X, 2, none⟩ = some (.int .i64 n) ∧ w'.cell? ⟨X, 3, none⟩ = some (.int .i64 o) ∧ w'.cell? ⟨X, 4, none⟩ = some (.slice p4 T.length c4) ∧ w'.cell? ⟨N + 1, 0, none⟩ = some (.bool xb)) wf) := by
      have hk := HF.out.1
      have hne : X ∉ [N] := by have := hx.2; simp; omega
      exact ⟨hk.cell r0 hne, hk.cell r1 hne, hk.cell r2 hne, hk.cell r3 hne, hk.cell r4 hne, hk.cell t0 (by simp)⟩
    clear hn hS hx i0 i4 HRD
    go_wp2_with fail
    refine wp_region_noPanic ?_
    refine wp_region_held_drew (S := (fun w' => w'.cell? ⟨X, 0, none⟩ = some (.slice p0 P.length c0) ∧ w'.cell? ⟨X, 1, none⟩ = some (.int .i64 f) ∧ w'.cell? ⟨X, 2, none⟩ = some (.int .i64 n) ∧ w'.cell? ⟨X, 3, none⟩ = some (.int .i64 o) ∧ w'.cell? ⟨X, 4, none⟩ = some (.slice p4 T.length c4) ∧ w'.cell? ⟨N + 1, 0, none⟩ = some (.bool xb))) (by kernel_rfl) ?_ (fun hHeld => ?_)
    · exact ⟨r0, r1, r2, r3, r4, t0⟩
    refine wpAnyH_take (i := 0) (v := ?_) rfl (by kernel_rfl) (by kernel_rfl) (by kernel_rfl) (fun _ _ _ h => h) (Or.inl ⟨by rfl, ?_⟩) (by assumption) ?_
    rotate_left
    · (intro w hSw; (try dsimp only at hSw); go_simp; try (with_reducible rfl))
    try simp only [Act.put, List.setIfInBounds_toArray, List.set_cons_zero, List.set_cons_succ, List.getElem_toArray, List.getElem_cons_zero, List.getElem_cons_succ]
    refine wpAnyH_take (i := 1) (v := ?_) rfl (by kernel_rfl) (by kernel_rfl) (by kernel_rfl) (fun _ _ _ h => h) (Or.inl ⟨by rfl, ?_⟩) (by assumption) ?_
    rotate_left
    · (intro w hSw; (try dsimp only at hSw); go_simp; try (with_reducible rfl))
    try simp only [Act.put, List.setIfInBounds_toArray, List.set_cons_zero, List.set_cons_succ, List.getElem_toArray, List.getElem_cons_zero, List.getElem_cons_succ]
    refine wpAnyH_ready (rs := [2]) (by kernel_rfl) (by simp) ?_
    refine AllReadyH.cons rfl (fun K hK => ?_) AllReadyH.nil
    go_simp
    rw [show (((((wx.setCell ⟨N, 0, none⟩ (.slice p0 P.length c0)).setCell ⟨N, 1, none⟩ (.int .i64 f)).setCell ⟨N, 2, none⟩ (.int .i64 n)).setCell ⟨N, 3, none⟩ (.int .i64 o)).setCell ⟨N, 4, none⟩ (.slice p4 T.length c4)).drew = wf from hwf.out]
    refine hK.out _ _ ?_ (fun hHeld => ?_)
    · exact HSS.out
    clear hK K
    try simp only [Act.put, List.setIfInBounds_toArray, List.set_cons_zero, List.set_cons_succ, List.getElem_toArray, List.getElem_cons_zero, List.getElem_cons_succ]
    refine wpAnyH_take (i := 3) (v := ?_) rfl (by kernel_rfl) (by kernel_rfl) (by kernel_rfl) (fun _ _ _ h => h) (Or.inl ⟨by rfl, ?_⟩) (by assumption) ?_
    rotate_left
    · (intro w hSw; (try dsimp only at hSw); go_simp; try (with_reducible rfl))
    try simp only [Act.put, List.setIfInBounds_toArray, List.set_cons_zero, List.set_cons_succ, List.getElem_toArray, List.getElem_cons_zero, List.getElem_cons_succ]
    refine wpAnyH_done (by kernel_rfl) ?_ _
    refine NoPanic.normal ?_
    clear hHeld r0 r1 r2 r3 r4 t0 t1 z0 z1 z2 z3 z4 f0 f1 f2 f3 f4
    go_wp2_with fail
    obtain ⟨hk, g0, g1, g2, g3, g4⟩ := HF.out
    obtain ⟨hn, i0, i4, hb, hs⟩ := HN0.out
    refine bodyPost_ret (v := .tuple #[.agg #[.slice p0 P.length c0, .int .i64 f, .int .i64 n, .int .i64 o, .slice p4 T.length c4], .bool xb]) (by simp [results, Tryz.results41, go_sem, g0, g1, g2, g3, g4]) rfl ⟨⟨_, rfl, p0, c0, p4, c4, rfl, (i0.step hk (by simp)).1, (i4.step hk (by simp)).1, i0.2.1, i4.2.1, fun b o e => by rw [show w.heap.size = N from hN.out]; have := (i0.2.2 b o e).1; omega, fun b o e => by rw [show w.heap.size = N from hN.out]; have := (i4.2.2 b o e).1; omega⟩, ?_⟩
    rw [show w.heap.size = N from hN.out]
    exact hb.trans (hk.below hs (by simp))
end Go.Proofs.YtbfdgflbflajdaaGreatDoor
