/-
  Routes in memory, each with where its lists lie; the library's MinFunc at routes by package best's order: what it returns.
-/
import Derived.Test.YtkcacdlgmapjjaaBestOrder
import Derived.Shelf.SlSortCmp.QuietGrown
namespace Go.Proofs.Ytkcacdlgmapjjaa
open Go.RowKit

/-- a route whose lists are of a size that the walk bears, and lie there. -/
def RvOk (w : World) (x : RV) : Prop := RvIn w x ∧ x.r.att.path.length ≤ 1000000 ∧ x.r.att.tags.length ≤ 1000000
theorem RvOk.below {w w' : World} {x : RV} (h : RvOk w x) (hb : Below w.heap.size w w') : RvOk w' x := ⟨⟨h.1.1.below hb, h.1.2.below hb⟩, h.2⟩
/-- what lies at an address: routes. -/
def RvAt (w : World) (b o : Nat) (X : List RV) : Prop := ∀ i (h : i < X.length) j, j < 8 → w.cell? ⟨b, o + i * 8 + j, none⟩ = (enc8 X[i])[j]?
theorem below_grown (w : World) (n : Nat) (os : Array Obj) : Below w.heap.size w (Go.Sort.grow (w.drewN n) os) :=
  ⟨rfl, rfl, rfl, by rw [Go.Sort.size_grow]; exact Nat.le_add_right _ _, fun k hk => by rw [Go.Sort.heap_grow_old _ _ (by simpa using hk)]; rfl⟩
theorem order_rv (x y : RV) (w : World) (hx : RvOk w x) (hy : RvOk w y) :
    Calls Try.prog 17 #[roV x, roV y] w fun r w' => r = .returned (.int .i64 (ordR x.r y.r)) ∧ ∃ n os, w' = Go.Sort.grow (w.drewN n) os := order_any x y w hx.1 hy.1 hx.2.1 hx.2.2 hy.2.1 hy.2.2
theorem ordR_lt (a b : Ro) : decide (ordR a b < 0) = ltI (keyR a) (keyR b) := ordI_neg _ _
/-- eight cells of a block of eight, stored. -/
theorem set8of8 {W : World} {N : Nat} {x0 x1 x2 x3 x4 x5 x6 x7 : Value} {t : TypeId} (h : W.heap[N]? = some (.cells #[x0, x1, x2, x3, x4, x5, x6, x7] t (0, 0))) (y0 y1 y2 y3 y4 y5 y6 y7 : Value) :
    ((((((((W.setCell ⟨N, 0, none⟩ y0).setCell ⟨N, 1, none⟩ y1).setCell ⟨N, 2, none⟩ y2).setCell ⟨N, 3, none⟩ y3).setCell ⟨N, 4, none⟩ y4).setCell ⟨N, 5, none⟩ y5).setCell ⟨N, 6, none⟩ y6).setCell ⟨N, 7, none⟩ y7).heap[N]? = some (.cells #[y0, y1, y2, y3, y4, y5, y6, y7] t (0, 0)) := by
  have h0 := heap_setCell_same W N 0 _ _ y0 h
  have h1 := heap_setCell_same _ N 1 _ _ y1 h0
  have h2 := heap_setCell_same _ N 2 _ _ y2 h1
  have h3 := heap_setCell_same _ N 3 _ _ y3 h2
  have h4 := heap_setCell_same _ N 4 _ _ y4 h3
  have h5 := heap_setCell_same _ N 5 _ _ y5 h4
  have h6 := heap_setCell_same _ N 6 _ _ y6 h5
  have h7 := heap_setCell_same _ N 7 _ _ y7 h6
  simpa using h7
theorem below_set8 {w W : World} {B N : Nat} (hb : Below B w W) (hN : B ≤ N) (y0 y1 y2 y3 y4 y5 y6 y7 : Value) :
    Below B w ((((((((W.setCell ⟨N, 0, none⟩ y0).setCell ⟨N, 1, none⟩ y1).setCell ⟨N, 2, none⟩ y2).setCell ⟨N, 3, none⟩ y3).setCell ⟨N, 4, none⟩ y4).setCell ⟨N, 5, none⟩ y5).setCell ⟨N, 6, none⟩ y6).setCell ⟨N, 7, none⟩ y7) :=
  (((((((hb.setCell (p := ⟨N, 0, none⟩) hN _).setCell (p := ⟨N, 1, none⟩) hN _).setCell (p := ⟨N, 2, none⟩) hN _).setCell (p := ⟨N, 3, none⟩) hN _).setCell (p := ⟨N, 4, none⟩) hN _).setCell (p := ⟨N, 5, none⟩) hN _).setCell (p := ⟨N, 6, none⟩) hN _).setCell (p := ⟨N, 7, none⟩) hN _
theorem heap_set8_ne (W : World) (N b : Nat) (hb : b ≠ N) (y0 y1 y2 y3 y4 y5 y6 y7 : Value) :
    ((((((((W.setCell ⟨N, 0, none⟩ y0).setCell ⟨N, 1, none⟩ y1).setCell ⟨N, 2, none⟩ y2).setCell ⟨N, 3, none⟩ y3).setCell ⟨N, 4, none⟩ y4).setCell ⟨N, 5, none⟩ y5).setCell ⟨N, 6, none⟩ y6).setCell ⟨N, 7, none⟩ y7).heap[b]? = W.heap[b]? := by
  rw [Below.heap_setCell _ _ _ _ hb, Below.heap_setCell _ _ _ _ hb, Below.heap_setCell _ _ _ _ hb, Below.heap_setCell _ _ _ _ hb, Below.heap_setCell _ _ _ _ hb, Below.heap_setCell _ _ _ _ hb, Below.heap_setCell _ _ _ _ hb, Below.heap_setCell _ _ _ _ hb]
theorem heap_set5_ne (W : World) (N b : Nat) (hb : b ≠ N) (y2 y3 y4 y5 y6 : Value) :
    (((((W.setCell ⟨N, 2, none⟩ y2).setCell ⟨N, 3, none⟩ y3).setCell ⟨N, 4, none⟩ y4).setCell ⟨N, 5, none⟩ y5).setCell ⟨N, 6, none⟩ y6).heap[b]? = W.heap[b]? := by
  rw [Below.heap_setCell _ _ _ _ hb, Below.heap_setCell _ _ _ _ hb, Below.heap_setCell _ _ _ _ hb, Below.heap_setCell _ _ _ _ hb, Below.heap_setCell _ _ _ _ hb]
theorem below_set5 {w W : World} {B N : Nat} (hb : Below B w W) (hN : B ≤ N) (y2 y3 y4 y5 y6 : Value) :
    Below B w (((((W.setCell ⟨N, 2, none⟩ y2).setCell ⟨N, 3, none⟩ y3).setCell ⟨N, 4, none⟩ y4).setCell ⟨N, 5, none⟩ y5).setCell ⟨N, 6, none⟩ y6) :=
  ((((hb.setCell (p := ⟨N, 2, none⟩) hN _).setCell (p := ⟨N, 3, none⟩) hN _).setCell (p := ⟨N, 4, none⟩) hN _).setCell (p := ⟨N, 5, none⟩) hN _).setCell (p := ⟨N, 6, none⟩) hN _
theorem ints_kept {w w' : World} {p : Option Addr} {L : List Int} (h : Ints w p L) (hk : ∀ b o, p = some ⟨b, o, none⟩ → w'.heap[b]? = w.heap[b]?) : Ints w' p L := fun i hi => by
  obtain ⟨b, o, e, c⟩ := h i hi
  refine ⟨b, o, e, ?_⟩
  rw [World.cell?_of_block (w := w) (hk b o e)]
  exact c
theorem size_set5 (W : World) (N : Nat) (y2 y3 y4 y5 y6 : Value) :
    (((((W.setCell ⟨N, 2, none⟩ y2).setCell ⟨N, 3, none⟩ y3).setCell ⟨N, 4, none⟩ y4).setCell ⟨N, 5, none⟩ y5).setCell ⟨N, 6, none⟩ y6).heap.size = W.heap.size := by simp
theorem size_set8 (W : World) (N : Nat) (y0 y1 y2 y3 y4 y5 y6 y7 : Value) :
    ((((((((W.setCell ⟨N, 0, none⟩ y0).setCell ⟨N, 1, none⟩ y1).setCell ⟨N, 2, none⟩ y2).setCell ⟨N, 3, none⟩ y3).setCell ⟨N, 4, none⟩ y4).setCell ⟨N, 5, none⟩ y5).setCell ⟨N, 6, none⟩ y6).setCell ⟨N, 7, none⟩ y7).heap.size = W.heap.size := by simp
theorem heapCells8 {w : World} {R : Nat} {x0 x1 x2 x3 x4 x5 x6 x7 : Value} {t : TypeId} (h : w.heap[R]? = some (.cells #[x0, x1, x2, x3, x4, x5, x6, x7] t (0, 0))) :
    w.cell? ⟨R, 0, none⟩ = some x0 ∧ w.cell? ⟨R, 1, none⟩ = some x1 ∧ w.cell? ⟨R, 2, none⟩ = some x2 ∧ w.cell? ⟨R, 3, none⟩ = some x3 ∧ w.cell? ⟨R, 4, none⟩ = some x4 ∧ w.cell? ⟨R, 5, none⟩ = some x5 ∧ w.cell? ⟨R, 6, none⟩ = some x6 ∧ w.cell? ⟨R, 7, none⟩ = some x7 ∧ (∀ o, w.frozen? ⟨R, o, none⟩ = false) := by
  refine ⟨?_, ?_, ?_, ?_, ?_, ?_, ?_, ?_, fun o => ?_⟩ <;> simp [World.cell?, World.frozen?, h]

set_option linter.unusedVariables false in
set_option linter.unusedSimpArgs false in
set_option maxRecDepth 100000 in
set_option maxHeartbeats 8000000 in
theorem minFunc_any (X : List RV) (b o cap : Nat) (w : World) (h0 : 0 < X.length) (hl : X.length ≤ 1000000) (hc : RvAt w b o X) (hr : ∀ x ∈ X, RvOk w x) :
    Calls Try.prog 16 #[.slice (some ⟨b, o, none⟩) X.length cap, .func (.func 17) #[] #[]] w fun e w' => (∃ y ∈ X, e = .returned (roV y) ∧ ∀ x ∈ X, ltI (keyR x.r) (keyR y.r) = false) ∧ Below w.heap.size w w' := by
  have eg : ∀ args w, (callFunc 17 args).run Try.prog w = .ok (.enter 17 args) w := enters_of Try.func17 (by kernel_rfl) rfl
  have mixed : Try.prog.follows .mixedOrders = true := by kernel_rfl
  obtain ⟨N, hN⟩ : ∃ N, Hid (w.heap.size = N) := ⟨_, show _ = _ from rfl⟩
  obtain ⟨HX⟩ : Nonempty (Hid (∀ w', Below w.heap.size w w' → RvAt w' b o X ∧ ∀ x ∈ X, RvOk w' x)) := ⟨fun w' hb => ⟨fun i h j hj => by
    have e := hc i h j hj
    rw [← e]
    have hj' : j < (enc8 X[i]).length := hj
    rw [List.getElem?_eq_getElem hj'] at e
    rw [cell_kept hb e, e], fun x hx => (hr x hx).below hb⟩⟩
  obtain ⟨X0, R0, rfl⟩ : ∃ X0 R0, X = X0 :: R0 := by
    cases X with
    | nil => simp at h0
    | cons a r => exact ⟨a, r, rfl⟩
  obtain ⟨n, hn⟩ : ∃ n : Nat, (X0 :: R0).length = n := ⟨_, rfl⟩
  obtain ⟨HL⟩ : Nonempty (Hid ((X0 :: R0).length = n)) := ⟨hn⟩
  have q0 := hc 0 (by simp)
  simp only [List.getElem_cons_zero, Nat.zero_mul, Nat.add_zero] at q0
  obtain ⟨⟨⟨ta, tn⟩, ⟨P, f, m, og, T⟩, u⟩, p, cp, q, cq⟩ := X0
  obtain ⟨k0, k1, k2, k3, k4, k5, k6, k7⟩ : w.cell? ⟨b, o, none⟩ = some (.int .i64 ta) ∧ w.cell? ⟨b, o + 1, none⟩ = some (.int .i64 tn) ∧ w.cell? ⟨b, o + 2, none⟩ = some (.slice p P.length cp) ∧ w.cell? ⟨b, o + 3, none⟩ = some (.int .i64 f) ∧ w.cell? ⟨b, o + 4, none⟩ = some (.int .i64 m) ∧ w.cell? ⟨b, o + 5, none⟩ = some (.int .i64 og) ∧ w.cell? ⟨b, o + 6, none⟩ = some (.slice q T.length cq) ∧ w.cell? ⟨b, o + 7, none⟩ = some (.int .i64 u) :=
    ⟨q0 0 (by decide), q0 1 (by decide), q0 2 (by decide), q0 3 (by decide), q0 4 (by decide), q0 5 (by decide), q0 6 (by decide), q0 7 (by decide)⟩
  have hlen1 : ¬ (n : Int) < 1 := by omega
  have hpos : (0 : Int) < (n : Int) := by omega
  rw [hn] at hl ⊢
  clear q0 hn h0 hc hr
  obtain ⟨X, hXX⟩ : ∃ X : List RV, Hid (X = (⟨⟨(ta, tn), ⟨P, f, m, og, T⟩, u⟩, p, cp, q, cq⟩ : RV) :: R0) := ⟨_, show _ = _ from rfl⟩
  rw [← hXX.out] at HX HL ⊢
  obtain ⟨HX0⟩ : Nonempty (Hid ((⟨⟨(ta, tn), ⟨P, f, m, og, T⟩, u⟩, p, cp, q, cq⟩ : RV) ∈ X ∧ ∀ x ∈ X.take 1, x = (⟨⟨(ta, tn), ⟨P, f, m, og, T⟩, u⟩, p, cp, q, cq⟩ : RV))) := ⟨by
    rw [hXX.out]
    exact ⟨by simp, by simp⟩⟩
  obtain ⟨W1, hW1⟩ : ∃ W, Hid (w.alloc (.cells #[.int .i64 0, .int .i64 0, .slice none 0 0, .int .i64 0, .int .i64 0, .int .i64 0, .slice none 0 0, .int .i64 0] 31) = W) := ⟨_, show _ = _ from rfl⟩
  obtain ⟨HW1⟩ : Nonempty (Hid (Below w.heap.size w W1 ∧ W1.heap[N]? = some (.cells #[.int .i64 0, .int .i64 0, .slice none 0 0, .int .i64 0, .int .i64 0, .int .i64 0, .slice none 0 0, .int .i64 0] 31 (0, 0)) ∧ W1.heap.size = N + 1)) := ⟨by
    rw [← hW1.out, ← hN.out]
    exact ⟨below_alloc _ _, Go.heap_alloc_new w _, by simp⟩⟩
  have j0 := cell_kept HW1.out.1 k0
  have j1 := cell_kept HW1.out.1 k1
  have j2 := cell_kept HW1.out.1 k2
  have j3 := cell_kept HW1.out.1 k3
  have j4 := cell_kept HW1.out.1 k4
  have j5 := cell_kept HW1.out.1 k5
  have j6 := cell_kept HW1.out.1 k6
  have j7 := cell_kept HW1.out.1 k7
  clear k0 k1 k2 k3 k4 k5 k6 k7
  obtain ⟨W, hW⟩ : ∃ W, Hid (W1.alloc (.cells #[.int .i64 ta, .int .i64 tn, .slice p P.length cp, .int .i64 f, .int .i64 m, .int .i64 og, .slice q T.length cq, .int .i64 u] 31) = W) := ⟨_, show _ = _ from rfl⟩
  obtain ⟨HW⟩ : Nonempty (Hid (Below w.heap.size w W ∧ W.heap[N]? = some (.cells #[.int .i64 0, .int .i64 0, .slice none 0 0, .int .i64 0, .int .i64 0, .int .i64 0, .slice none 0 0, .int .i64 0] 31 (0, 0)) ∧ W.heap[N + 1]? = some (.cells #[.int .i64 ta, .int .i64 tn, .slice p P.length cp, .int .i64 f, .int .i64 m, .int .i64 og, .slice q T.length cq, .int .i64 u] 31 (0, 0)) ∧ W.heap.size = N + 2)) := ⟨by
    rw [← hW.out]
    refine ⟨HW1.out.1.trans ((below_alloc _ _).mono HW1.out.1.size), ?_, ?_, by rw [show (W1.alloc _).heap.size = W1.heap.size + 1 by simp, HW1.out.2.2]⟩
    · rw [Below.heap_alloc _ _ _ (by rw [HW1.out.2.2]; omega)]; exact HW1.out.2.1
    · have := Go.heap_alloc_new W1 (.cells #[.int .i64 ta, .int .i64 tn, .slice p P.length cp, .int .i64 f, .int .i64 m, .int .i64 og, .slice q T.length cq, .int .i64 u] 31)
      rwa [HW1.out.2.2] at this⟩
  go_enter Try.func16, Try.ntmps16
  go_upto_region 1 with fail
  rw [show w.alloc (.cells #[.int .i64 0, .int .i64 0, .slice none 0 0, .int .i64 0, .int .i64 0, .int .i64 0, .slice none 0 0, .int .i64 0] 31) = W1 from hW1.out, show w.heap.size = N from hN.out]
  go_upto_region 4 with fail
  rw [show W1.alloc (.cells #[.int .i64 ta, .int .i64 tn, .slice p P.length cp, .int .i64 f, .int .i64 m, .int .i64 og, .slice q T.length cq, .int .i64 u] 31) = W from hW.out, show W1.heap.size = N + 1 from HW1.out.2.2]
  clear j0 j1 j2 j3 j4 j5 j6 j7 hW hW1 HW1
  go_wp2_with fail
  go_loopw [6] (fun vi wr => ∃ (i : Nat) (y : RV), vi = .int .i64 i ∧ 1 ≤ i ∧ i ≤ n ∧ Hid (Below w.heap.size w wr ∧ wr.heap[N]? = some (.cells #[.int .i64 0, .int .i64 0, .slice none 0 0, .int .i64 0, .int .i64 0, .int .i64 0, .slice none 0 0, .int .i64 0] 31 (0, 0)) ∧ wr.heap[N + 1]? = some (.cells (enc8 y).toArray 31 (0, 0)) ∧ N + 2 ≤ wr.heap.size) ∧ Hid (y ∈ X ∧ ∀ x ∈ X.take i, ltI (keyR x.r) (keyR y.r) = false))
    (fun vi _ => n - (intOf vi).toNat)
  case atStart => exact ⟨1, ⟨⟨(ta, tn), ⟨P, f, m, og, T⟩, u⟩, p, cp, q, cq⟩, rfl, Nat.le_refl _, by omega, ⟨HW.out.1, HW.out.2.1, HW.out.2.2.1, by rw [HW.out.2.2.2]; exact Nat.le_refl _⟩, HX0.out.1, fun x hx => by rw [HX0.out.2 x hx]; exact ltI_irrefl _⟩
  case round =>
    clear HW HX0
    obtain ⟨i, y, rfl, h1i, hin, HW, HY⟩ := hrel
    obtain ⟨HS⟩ : Nonempty (Hid (y = y)) := ⟨rfl⟩
    by_cases hlt : i < n
    · have hltz : (i : Int) < (n : Int) := by omega
      have hiX : i < X.length := by rw [HL.out]; exact hlt
      obtain ⟨x, hx⟩ : ∃ x, Hid (X[i] = x) := ⟨_, show _ = _ from rfl⟩
      have hc := fun (k : Nat) (os : Array Obj) => order_rv x y (Go.Sort.grow (wr.drewN k) os) (by rw [← hx.out]; exact ((HX.out wr HW.out.1).2 _ (List.getElem_mem hiX)).below (below_grown _ _ _)) (((HX.out wr HW.out.1).2 _ HY.out.1).below (below_grown _ _ _))
      have hxc := (HX.out wr HW.out.1).1 i hiX
      rw [show X[i] = x from hx.out] at hxc
      have hyc := HW.out.2.2.1
      obtain ⟨HG⟩ : Nonempty (Hid (ltI (keyR x.r) (keyR y.r) = true → ∀ z ∈ X.take (i + 1), ltI (keyR z.r) (keyR x.r) = false)) := ⟨fun hlt z hz => by
        rw [List.take_succ_eq_append_getElem hiX, List.mem_append, List.mem_singleton, show X[i] = x from hx.out] at hz
        rcases hz with hz | rfl
        · cases g : ltI (keyR z.r) (keyR x.r) with
          | false => rfl
          | true => have := ltI_trans g hlt; rw [HY.out.2 z hz] at this; cases this
        · exact ltI_irrefl _⟩
      obtain ⟨HF⟩ : Nonempty (Hid (ltI (keyR x.r) (keyR y.r) = false → ∀ z ∈ X.take (i + 1), ltI (keyR z.r) (keyR y.r) = false)) := ⟨fun hlt z hz => by
        rw [List.take_succ_eq_append_getElem hiX, List.mem_append, List.mem_singleton, show X[i] = x from hx.out] at hz
        rcases hz with hz | rfl
        · exact HY.out.2 z hz
        · exact hlt⟩
      obtain ⟨HM⟩ : Nonempty (Hid (x ∈ X)) := ⟨by rw [← hx.out]; exact List.getElem_mem hiX⟩
      obtain ⟨t, ht⟩ : ∃ t, ordR x.r y.r = t := ⟨_, rfl⟩
      have htl : decide (t < 0) = ltI (keyR x.r) (keyR y.r) := by rw [← ht]; exact ordR_lt _ _
      simp only [ht] at hc
      clear ht hx hiX hlt
      have e1 : ((i : Int)).toNat = i := by omega
      have e2 : (0 : Int) ≤ (i : Int) := by omega
      have e3 : IntKind.i64.wrap ((i : Int)) = (i : Int) := by rw [IntKind.wrap_i64]; omega
      obtain ⟨⟨⟨xa, xn⟩, ⟨xP, xf, xm, xo, xT⟩, xu⟩, xp, xcp, xq, xcq⟩ := x
      obtain ⟨⟨⟨ya, yn⟩, ⟨yP, yf, ym, yo, yT⟩, yu⟩, yp, ycp, yq, ycq⟩ := y
      obtain ⟨k0, k1, k2, k3, k4, k5, k6, k7⟩ : wr.cell? ⟨b, o + i * 8, none⟩ = some (.int .i64 xa) ∧ wr.cell? ⟨b, o + i * 8 + 1, none⟩ = some (.int .i64 xn) ∧ wr.cell? ⟨b, o + i * 8 + 2, none⟩ = some (.slice xp xP.length xcp) ∧ wr.cell? ⟨b, o + i * 8 + 3, none⟩ = some (.int .i64 xf) ∧ wr.cell? ⟨b, o + i * 8 + 4, none⟩ = some (.int .i64 xm) ∧ wr.cell? ⟨b, o + i * 8 + 5, none⟩ = some (.int .i64 xo) ∧ wr.cell? ⟨b, o + i * 8 + 6, none⟩ = some (.slice xq xT.length xcq) ∧ wr.cell? ⟨b, o + i * 8 + 7, none⟩ = some (.int .i64 xu) :=
        ⟨hxc 0 (by decide), hxc 1 (by decide), hxc 2 (by decide), hxc 3 (by decide), hxc 4 (by decide), hxc 5 (by decide), hxc 6 (by decide), hxc 7 (by decide)⟩
      have hyc' : wr.heap[N + 1]? = some (.cells #[.int .i64 ya, .int .i64 yn, .slice yp yP.length ycp, .int .i64 yf, .int .i64 ym, .int .i64 yo, .slice yq yT.length ycq, .int .i64 yu] 31 (0, 0)) := hyc
      obtain ⟨y0, y1, y2, y3, y4, y5, y6, y7, -⟩ := heapCells8 hyc'
      have gk0 := fun k os => Go.cell_grown (block_lt_of_cell k0) k0 k os
      have gk1 := fun k os => Go.cell_grown (block_lt_of_cell k1) k1 k os
      have gk2 := fun k os => Go.cell_grown (block_lt_of_cell k2) k2 k os
      have gk3 := fun k os => Go.cell_grown (block_lt_of_cell k3) k3 k os
      have gk4 := fun k os => Go.cell_grown (block_lt_of_cell k4) k4 k os
      have gk5 := fun k os => Go.cell_grown (block_lt_of_cell k5) k5 k os
      have gk6 := fun k os => Go.cell_grown (block_lt_of_cell k6) k6 k os
      have gk7 := fun k os => Go.cell_grown (block_lt_of_cell k7) k7 k os
      have gy0 := fun k os => Go.cell_grown (block_lt_of_cell y0) y0 k os
      have gy1 := fun k os => Go.cell_grown (block_lt_of_cell y1) y1 k os
      have gy2 := fun k os => Go.cell_grown (block_lt_of_cell y2) y2 k os
      have gy3 := fun k os => Go.cell_grown (block_lt_of_cell y3) y3 k os
      have gy4 := fun k os => Go.cell_grown (block_lt_of_cell y4) y4 k os
      have gy5 := fun k os => Go.cell_grown (block_lt_of_cell y5) y5 k os
      have gy6 := fun k os => Go.cell_grown (block_lt_of_cell y6) y6 k os
      have gy7 := fun k os => Go.cell_grown (block_lt_of_cell y7) y7 k os
      clear hxc hyc hyc' k0 k1 k2 k3 k4 k5 k6 k7 y0 y1 y2 y3 y4 y5 y6 y7
      unfold roV enc8 at hc
      simp only at hc
      cases hv : ltI (keyR (⟨⟨(xa, xn), ⟨xP, xf, xm, xo, xT⟩, xu⟩, xp, xcp, xq, xcq⟩ : RV).r) (keyR (⟨⟨(ya, yn), ⟨yP, yf, ym, yo, yT⟩, yu⟩, yp, ycp, yq, ycq⟩ : RV).r) with
      | true =>
        rw [hv] at htl
        have htl' : t < 0 := of_decide_eq_true htl
        obtain ⟨HV⟩ : Nonempty (Hid _) := ⟨HG.out hv⟩
        clear hv HG HF
        go_wp2_with fail
        go_quiet_grown (first | (go_at_fn 17; refine Calls.grown_of (hc _ _)))
        obtain ⟨wv, hwv⟩ : ∃ wv, wv = Go.Sort.grow (wr.drewN nq) osq := ⟨_, rfl⟩
        obtain ⟨HV2⟩ : Nonempty (Hid (Below w.heap.size w wv ∧ wv.heap[N]? = some (.cells #[.int .i64 0, .int .i64 0, .slice none 0 0, .int .i64 0, .int .i64 0, .int .i64 0, .slice none 0 0, .int .i64 0] 31 (0, 0)) ∧ wv.heap[N + 1]? = some (.cells #[.int .i64 ya, .int .i64 yn, .slice yp yP.length ycp, .int .i64 yf, .int .i64 ym, .int .i64 yo, .slice yq yT.length ycq, .int .i64 yu] 31 (0, 0)) ∧ N + 2 ≤ wv.heap.size)) := ⟨by
          have hb := below_grown wr nq osq
          rw [← hwv] at hb
          have h2 := HW.out.2.2.2
          exact ⟨HW.out.1.trans (hb.mono HW.out.1.size), by rw [hb.block _ (by omega)]; exact HW.out.2.1, by rw [hb.block _ (by omega)]; exact HW.out.2.2.1, Nat.le_trans h2 hb.size⟩⟩
        have k0 := gk0 nq osq
        have k1 := gk1 nq osq
        have k2 := gk2 nq osq
        have k3 := gk3 nq osq
        have k4 := gk4 nq osq
        have k5 := gk5 nq osq
        have k6 := gk6 nq osq
        have k7 := gk7 nq osq
        change Exit.then _ _ _ _ (Go.Sort.grow (wr.drewN nq) osq)
        rw [← hwv] at k0 k1 k2 k3 k4 k5 k6 k7 ⊢
        clear gk0 gk1 gk2 gk3 gk4 gk5 gk6 gk7 gy0 gy1 gy2 gy3 gy4 gy5 gy6 gy7 hc hwv HW
        obtain ⟨y0, y1, y2, y3, y4, y5, y6, y7, yf'⟩ := heapCells8 HV2.out.2.2.1
        have f0 := yf' 0
        have f1 := yf' 1
        have f2 := yf' 2
        have f3 := yf' 3
        have f4 := yf' 4
        have f5 := yf' 5
        have f6 := yf' 6
        have f7 := yf' 7
        clear yf'
        go_wp2_with fail
        go_roundw
        case rel =>
          refine ⟨i + 1, ⟨⟨(xa, xn), ⟨xP, xf, xm, xo, xT⟩, xu⟩, xp, xcp, xq, xcq⟩, by go_num, by omega, by omega, ⟨below_set8 HV2.out.1 (by rw [show w.heap.size = N from hN.out]; omega) _ _ _ _ _ _ _ _, ?_, set8of8 HV2.out.2.2.1 _ _ _ _ _ _ _ _, by rw [size_set8]; exact HV2.out.2.2.2⟩, HM.out, HV.out⟩
          rw [(below_set8 (Below.refl (N + 1) wv) (Nat.le_refl _) _ _ _ _ _ _ _ _).block N (by omega)]
          exact HV2.out.2.1
        case measure => simp [intOf]; omega
      | false =>
        rw [hv] at htl
        have htl' : ¬ t < 0 := of_decide_eq_false htl
        obtain ⟨HV⟩ : Nonempty (Hid _) := ⟨HF.out hv⟩
        clear hv HG HF
        go_wp2_with fail
        go_quiet_grown (first | (go_at_fn 17; refine Calls.grown_of (hc _ _)))
        obtain ⟨wv, hwv⟩ : ∃ wv, wv = Go.Sort.grow (wr.drewN nq) osq := ⟨_, rfl⟩
        obtain ⟨HV2⟩ : Nonempty (Hid (Below w.heap.size w wv ∧ wv.heap[N]? = some (.cells #[.int .i64 0, .int .i64 0, .slice none 0 0, .int .i64 0, .int .i64 0, .int .i64 0, .slice none 0 0, .int .i64 0] 31 (0, 0)) ∧ wv.heap[N + 1]? = some (.cells #[.int .i64 ya, .int .i64 yn, .slice yp yP.length ycp, .int .i64 yf, .int .i64 ym, .int .i64 yo, .slice yq yT.length ycq, .int .i64 yu] 31 (0, 0)) ∧ N + 2 ≤ wv.heap.size)) := ⟨by
          have hb := below_grown wr nq osq
          rw [← hwv] at hb
          have h2 := HW.out.2.2.2
          exact ⟨HW.out.1.trans (hb.mono HW.out.1.size), by rw [hb.block _ (by omega)]; exact HW.out.2.1, by rw [hb.block _ (by omega)]; exact HW.out.2.2.1, Nat.le_trans h2 hb.size⟩⟩
        change Exit.then _ _ _ _ (Go.Sort.grow (wr.drewN nq) osq)
        rw [← hwv]
        clear gk0 gk1 gk2 gk3 gk4 gk5 gk6 gk7 gy0 gy1 gy2 gy3 gy4 gy5 gy6 gy7 hc hwv HW
        go_wp2_with fail
        go_roundw
        case rel => exact ⟨i + 1, (⟨⟨(ya, yn), ⟨yP, yf, ym, yo, yT⟩, yu⟩, yp, ycp, yq, ycq⟩ : RV), by go_num, by omega, by omega, HV2, HY.out.1, HV.out⟩
        case measure => simp [intOf]; omega
    · have hltz : ¬ (i : Int) < (n : Int) := by omega
      obtain rfl : i = n := by omega
      obtain ⟨⟨⟨ya, yn⟩, ⟨yP, yf, ym, yo, yT⟩, yu⟩, yp, ycp, yq, ycq⟩ := y
      have hyc' : wr.heap[N + 1]? = some (.cells #[.int .i64 ya, .int .i64 yn, .slice yp yP.length ycp, .int .i64 yf, .int .i64 ym, .int .i64 yo, .slice yq yT.length ycq, .int .i64 yu] 31 (0, 0)) := HW.out.2.2.1
      obtain ⟨y0, y1, y2, y3, y4, y5, y6, y7, -⟩ := heapCells8 hyc'
      obtain ⟨z0, z1, z2, z3, z4, z5, z6, z7, zf⟩ := heapCells8 HW.out.2.1
      have f0 := zf 0
      have f1 := zf 1
      have f2 := zf 2
      have f3 := zf 3
      have f4 := zf 4
      have f5 := zf 5
      have f6 := zf 6
      have f7 := zf 7
      clear zf hyc'
      go_wp2_with fail
      have g8 := set8of8 HW.out.2.1 (.int .i64 ya) (.int .i64 yn) (.slice yp yP.length ycp) (.int .i64 yf) (.int .i64 ym) (.int .i64 yo) (.slice yq yT.length ycq) (.int .i64 yu)
      have gb := below_set8 (N := N) HW.out.1 (by rw [show w.heap.size = N from hN.out]; exact Nat.le_refl _) (.int .i64 ya) (.int .i64 yn) (.slice yp yP.length ycp) (.int .i64 yf) (.int .i64 ym) (.int .i64 yo) (.slice yq yT.length ycq) (.int .i64 yu)
      obtain ⟨r0, r1, r2, r3, r4, r5, r6, r7, -⟩ := heapCells8 g8
      clear y0 y1 y2 y3 y4 y5 y6 y7 z0 z1 z2 z3 z4 z5 z6 z7 f0 f1 f2 f3 f4 f5 f6 f7
      refine bodyPost_ret (v := .agg #[.int .i64 ya, .int .i64 yn, .slice yp yP.length ycp, .int .i64 yf, .int .i64 ym, .int .i64 yo, .slice yq yT.length ycq, .int .i64 yu]) (by simp [results, Try.results16, go_sem, r0, r1, r2, r3, r4, r5, r6, r7]) rfl ⟨⟨_, HY.out.1, rfl, fun x hx => HY.out.2 x ?_⟩, gb⟩
      rw [List.take_of_length_le (by rw [HL.out]; omega)]
      exact hx
end Go.Proofs.Ytkcacdlgmapjjaa
