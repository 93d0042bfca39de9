/-
  The law BestTells: it returns true.
-/
import Derived.Test.YtkcacdlgmapjjaaBestLaw0
import Derived.Lib.QuietBelow
namespace Go.Proofs.Ytkcacdlgmapjjaa
open Go.RowKit
open scoped Classical

theorem own_ok {X X1 : List RV} {L : List Ro} {p1 : Option Addr} {n : Nat} {w1 wr : World} (hXL : X.map (·.r) = L) (hn : L.length = n) (hm : n ≤ 30 ∧ ∀ x ∈ X, x.r.att.path.length ≤ 1000000 ∧ x.r.att.tags.length ≤ 1000000) (hX1 : X1.map (·.r) = L) (hrow : RvRow w1 p1 X1) (hin : ∀ x ∈ X1, RvIn w1 x) (hb : Below wr.heap.size wr w1) :
    X1.map (·.r) = X.map (·.r) ∧ X1.length = n ∧ RvRow w1 p1 X1 ∧ (∀ x ∈ X1, RvOk w1 x) ∧ Below wr.heap.size wr w1 := by
  refine ⟨by rw [hX1, hXL], by rw [← hn, ← hX1, List.length_map], hrow, fun x hx => ⟨hin x hx, ?_⟩, hb⟩
  have : x.r ∈ X.map (·.r) := by rw [hXL, ← hX1]; exact List.mem_map_of_mem hx
  obtain ⟨z, hz, he⟩ := List.mem_map.1 this
  rw [← he]
  exact hm.2 z hz
theorem same_sorted (X Y Z : List RV) (p q : Option Addr) (c d n : Nat) (w2 wr : World) (hm : ∀ x ∈ X, x.r.att.path.length ≤ 1000000 ∧ x.r.att.tags.length ≤ 1000000)
    (hZ : Routes w2 p (Z.map (·.r)) ∧ (Z.map (·.r)).Perm (X.map (·.r)) ∧ SortedK keyV Z ∧ Z.length = n ∧ Below wr.heap.size wr w2) (hY : Routes wr q (Y.map (·.r)) ∧ Y.Perm X ∧ SortedK keyV Y ∧ Y.length = n ∧ n ≤ 30) :
    Calls Try.prog 8 #[.slice p n c, .slice q n d] w2 fun r w' => r = .returned (.bool true) ∧ Below w2.heap.size w2 w' := by
  obtain ⟨h1, h2, h3, h4, h5⟩ := hZ
  obtain ⟨g1, g2, g3, g4, g5⟩ := hY
  have e : Z.map (·.r) = Y.map (·.r) := sorted_one h3 g3 (h2.trans (g2.map (·.r)).symm)
  have mX : Mod (X.map (·.r)) := modL rfl hm
  have mZ : Mod (Z.map (·.r)) := fun r hr => mX r (h2.mem_iff.1 hr)
  have := sameRoutes_any (Z.map (·.r)) (Y.map (·.r)) p q c d w2 h1 (g1.below h5) (by rw [List.length_map]; omega) (by rw [List.length_map]; omega) mZ (by rw [← e]; exact mZ)
  rw [List.length_map, List.length_map, h4, g4, decide_eq_true e] at this
  exact this
set_option linter.unusedVariables false in
set_option linter.unusedSimpArgs false in
set_option maxRecDepth 100000 in
set_option maxHeartbeats 16000000 in
theorem bestTells_any (L : List Ro) (p : Option Addr) (cap : Nat) (x y : RV) (w : World) (hL : RoutesArg w p L) (hx : RvIn w x) (hy : RvIn w y) :
    Calls Try.prog 4 #[.slice p L.length cap, roV x, roV y] w fun r w' => r = .returned (.bool true) ∧ Below w.heap.size w w' := by
  have mixed : Try.prog.follows .mixedOrders = true := by kernel_rfl
  obtain ⟨X, hXL, hrow, hin⟩ := rvs_of hL.routes
  have hlen : X.length = L.length := by rw [← hXL, List.length_map]
  obtain ⟨HXW⟩ : Nonempty (Hid (∀ w', Below w.heap.size w w' → RvRow w' p X ∧ (∀ x ∈ X, RvIn w' x) ∧ RvIn w' x ∧ RvIn w' y ∧ RoutesArg w' p L)) := ⟨fun w' hb => ⟨hrow.below hb, fun z hz => ⟨(hin z hz).1.below hb, (hin z hz).2.below hb⟩, ⟨hx.1.below hb, hx.2.below hb⟩, ⟨hy.1.below hb, hy.2.below hb⟩, hL.below hb⟩⟩
  obtain ⟨N, hN⟩ : ∃ N, Hid (w.heap.size = N) := ⟨_, show _ = _ from rfl⟩
  obtain ⟨W, hW⟩ : ∃ W, Hid ((w.alloc (.cells #[.int .i64 x.r.dst.1, .int .i64 x.r.dst.2, .slice x.p x.r.att.path.length x.cp, .int .i64 x.r.att.pref, .int .i64 x.r.att.med, .int .i64 x.r.att.org, .slice x.q x.r.att.tags.length x.cq, .int .i64 x.r.frm] 31)).alloc (.cells #[.int .i64 y.r.dst.1, .int .i64 y.r.dst.2, .slice y.p y.r.att.path.length y.cp, .int .i64 y.r.att.pref, .int .i64 y.r.att.med, .int .i64 y.r.att.org, .slice y.q y.r.att.tags.length y.cq, .int .i64 y.r.frm] 31) = W) := ⟨_, show _ = _ from rfl⟩
  obtain ⟨HW⟩ : Nonempty (Hid (Below w.heap.size w W ∧ W.heap[N]? = some (.cells #[.int .i64 x.r.dst.1, .int .i64 x.r.dst.2, .slice x.p x.r.att.path.length x.cp, .int .i64 x.r.att.pref, .int .i64 x.r.att.med, .int .i64 x.r.att.org, .slice x.q x.r.att.tags.length x.cq, .int .i64 x.r.frm] 31 (0, 0)) ∧ W.heap[N + 1]? = some (.cells #[.int .i64 y.r.dst.1, .int .i64 y.r.dst.2, .slice y.p y.r.att.path.length y.cp, .int .i64 y.r.att.pref, .int .i64 y.r.att.med, .int .i64 y.r.att.org, .slice y.q y.r.att.tags.length y.cq, .int .i64 y.r.frm] 31 (0, 0)))) := ⟨by
    rw [← hW.out, ← hN.out]
    refine ⟨below_two _ _ _, ?_, ?_⟩
    · rw [Below.heap_alloc _ _ _ (by simp)]; exact Go.heap_alloc_new w _
    · have := Go.heap_alloc_new (w.alloc (.cells #[.int .i64 x.r.dst.1, .int .i64 x.r.dst.2, .slice x.p x.r.att.path.length x.cp, .int .i64 x.r.att.pref, .int .i64 x.r.att.med, .int .i64 x.r.att.org, .slice x.q x.r.att.tags.length x.cq, .int .i64 x.r.frm] 31)) (.cells #[.int .i64 y.r.dst.1, .int .i64 y.r.dst.2, .slice y.p y.r.att.path.length y.cp, .int .i64 y.r.att.pref, .int .i64 y.r.att.med, .int .i64 y.r.att.org, .slice y.q y.r.att.tags.length y.cq, .int .i64 y.r.frm] 31)
      simpa using this⟩
  obtain ⟨n, hn⟩ : ∃ n, L.length = n := ⟨_, rfl⟩
  obtain ⟨HLN⟩ : Nonempty (Hid (X.map (·.r) = L ∧ L.length = n ∧ X.length = n)) := ⟨⟨hXL, hn, by omega⟩⟩
  rw [hn]
  clear hXL hrow hin hlen hn hx hy hL
  have hbt := bettered_any W
  unfold roV enc8
  go_enter Try.func4, Try.ntmps4
  go_upto_region 1 with fail
  rw [show (w.alloc (.cells #[.int .i64 x.r.dst.1, .int .i64 x.r.dst.2, .slice x.p x.r.att.path.length x.cp, .int .i64 x.r.att.pref, .int .i64 x.r.att.med, .int .i64 x.r.att.org, .slice x.q x.r.att.tags.length x.cq, .int .i64 x.r.frm] 31)).alloc (.cells #[.int .i64 y.r.dst.1, .int .i64 y.r.dst.2, .slice y.p y.r.att.path.length y.cp, .int .i64 y.r.att.pref, .int .i64 y.r.att.med, .int .i64 y.r.att.org, .slice y.q y.r.att.tags.length y.cq, .int .i64 y.r.frm] 31) = W from hW.out, show w.heap.size = N from hN.out]
  clear hW
  go_wp2_with fail
  refine hbt.mono ?_
  rintro e w0 ⟨rfl, hb0⟩
  obtain ⟨HB⟩ : Nonempty (Hid (Below w.heap.size w w0)) := ⟨HW.out.1.trans (hb0.mono HW.out.1.size)⟩
  obtain ⟨HKX⟩ : Nonempty (Hid (∀ w', Below w0.heap.size w0 w' → (fun w' : World => w'.cell? ⟨N, 0, none⟩ = some (.int .i64 x.r.dst.1) ∧ w'.cell? ⟨N, 1, none⟩ = some (.int .i64 x.r.dst.2) ∧ w'.cell? ⟨N, 2, none⟩ = some (.slice x.p x.r.att.path.length x.cp) ∧ w'.cell? ⟨N, 3, none⟩ = some (.int .i64 x.r.att.pref) ∧ w'.cell? ⟨N, 4, none⟩ = some (.int .i64 x.r.att.med) ∧ w'.cell? ⟨N, 5, none⟩ = some (.int .i64 x.r.att.org) ∧ w'.cell? ⟨N, 6, none⟩ = some (.slice x.q x.r.att.tags.length x.cq) ∧ w'.cell? ⟨N, 7, none⟩ = some (.int .i64 x.r.frm) ∧ w'.cell? ⟨N + 1, 0, none⟩ = some (.int .i64 y.r.dst.1) ∧ w'.cell? ⟨N + 1, 1, none⟩ = some (.int .i64 y.r.dst.2) ∧ w'.cell? ⟨N + 1, 2, none⟩ = some (.slice y.p y.r.att.path.length y.cp) ∧ w'.cell? ⟨N + 1, 3, none⟩ = some (.int .i64 y.r.att.pref) ∧ w'.cell? ⟨N + 1, 4, none⟩ = some (.int .i64 y.r.att.med) ∧ w'.cell? ⟨N + 1, 5, none⟩ = some (.int .i64 y.r.att.org) ∧ w'.cell? ⟨N + 1, 6, none⟩ = some (.slice y.q y.r.att.tags.length y.cq) ∧ w'.cell? ⟨N + 1, 7, none⟩ = some (.int .i64 y.r.frm)) w')) := ⟨fun w' hb => by
    obtain ⟨k0, k1, k2, k3, k4, k5, k6, k7, -⟩ := heap_cells8 HW.out.2.1
    obtain ⟨m0, m1, m2, m3, m4, m5, m6, m7, -⟩ := heap_cells8 HW.out.2.2
    have h : Below W.heap.size W w' := hb0.trans (hb.mono hb0.size)
    exact ⟨cell_kept h k0, cell_kept h k1, cell_kept h k2, cell_kept h k3, cell_kept h k4, cell_kept h k5, cell_kept h k6, cell_kept h k7, cell_kept h m0, cell_kept h m1, cell_kept h m2, cell_kept h m3, cell_kept h m4, cell_kept h m5, cell_kept h m6, cell_kept h m7⟩⟩
  obtain ⟨HB0⟩ : Nonempty (Hid (Below w0.heap.size w0 w0)) := ⟨Below.refl _ _⟩
  clear hb0 hbt
  go_upto_region 2 with fail
  obtain ⟨t, HT⟩ : ∃ t, Hid ((longRs X || (longA x.r.att || longA y.r.att)) = t) := ⟨_, show _ = _ from rfl⟩
  go_cut [28] from 11 (fun s wc => s = .bool t ∧ Hid (Below w0.heap.size w0 wc))
  case first =>
    have hk := HKX.out _ HB0.out
    obtain ⟨k0, k1, k2, k3, k4, k5, k6, k7, m0, m1, m2, m3, m4, m5, m6, m7⟩ := hk
    have g2 := cell_regrown k2
    have g3 := cell_regrown k3
    have g4 := cell_regrown k4
    have g5 := cell_regrown k5
    have g6 := cell_regrown k6
    have q2 := cell_regrown m2
    have q3 := cell_regrown m3
    have q4 := cell_regrown m4
    have q5 := cell_regrown m5
    have q6 := cell_regrown m6
    clear k0 k1 k2 k3 k4 k5 k6 k7 m0 m1 m2 m3 m4 m5 m6 m7
    have c1 := fun (d : Nat) (os : Array Obj) => longRoutes_any X p cap (Go.Sort.grow (redrawn w0 d) os) (HXW.out _ (HB.out.trans ((below_regrown w0 d os).mono HB.out.size))).1 (HXW.out _ (HB.out.trans ((below_regrown w0 d os).mono HB.out.size))).2.1
    have c2 := fun (d : Nat) (os : Array Obj) => rLongAttr_any (.agg #[.slice x.p x.r.att.path.length x.cp, .int .i64 x.r.att.pref, .int .i64 x.r.att.med, .int .i64 x.r.att.org, .slice x.q x.r.att.tags.length x.cq]) x.r.att (Go.Sort.grow (redrawn w0 d) os) ⟨x.p, x.cp, x.q, x.cq, rfl, (HXW.out _ (HB.out.trans ((below_regrown w0 d os).mono HB.out.size))).2.2.1.1, (HXW.out _ (HB.out.trans ((below_regrown w0 d os).mono HB.out.size))).2.2.1.2⟩
    have c3 := fun (d : Nat) (os : Array Obj) => rLongAttr_any (.agg #[.slice y.p y.r.att.path.length y.cp, .int .i64 y.r.att.pref, .int .i64 y.r.att.med, .int .i64 y.r.att.org, .slice y.q y.r.att.tags.length y.cq]) y.r.att (Go.Sort.grow (redrawn w0 d) os) ⟨y.p, y.cp, y.q, y.cq, rfl, (HXW.out _ (HB.out.trans ((below_regrown w0 d os).mono HB.out.size))).2.2.2.1.1, (HXW.out _ (HB.out.trans ((below_regrown w0 d os).mono HB.out.size))).2.2.2.1.2⟩
    simp only [HLN.out.2.2] at c1
    have ht := HT.out
    cases h1 : longRs X with
    | true =>
      simp only [h1, if_true] at c1
      rw [h1] at ht
      skip
      refine wp_region_quiet_below (by assumption) (by kernel_rfl) ?_
      repeat (go_big_quiet_step (first | (go_at_call 6; refine Calls.regrown_of (c1 _ _))))
      refine wpQuiet_nil ?_
      intro _ hw'
      obtain ⟨⟨nq, osq⟩, hw''⟩ := hw'
      subst hw''
      obtain ⟨HV⟩ : Nonempty (Hid (Below w0.heap.size w0 (Go.Sort.grow (redrawn w0 nq) osq))) := ⟨below_regrown w0 nq osq⟩
      dsimp only
      clear g2 g3 g4 g5 g6 q2 q3 q4 q5 q6 c1 c2 c3
      generalize Go.Sort.grow (redrawn w0 nq) osq = wv at HV ⊢
      go_wp2_with fail
      go_meet
      case rel => exact ⟨by rw [← ht]; rfl, HV⟩
    | false =>
      simp only [h1, if_false, Bool.false_eq_true] at c1
      rw [h1] at ht
      cases h2 : longA x.r.att with
      | true =>
        simp only [h2, if_true] at c2
        rw [h2] at ht
        cases h3 : longA y.r.att with
        | true =>
          simp only [h3, if_true] at c3
          rw [h3] at ht
          skip
          refine wp_region_quiet_below (by assumption) (by kernel_rfl) ?_
          repeat (go_big_quiet_step (first | (go_at_call 6; refine Calls.regrown_of (c1 _ _)) | (go_at_call 11; first | with_reducible refine Calls.regrown_of (c2 _ _) | with_reducible refine Calls.regrown_of (c3 _ _))))
          refine wpQuiet_nil ?_
          intro _ hw'
          obtain ⟨⟨nq, osq⟩, hw''⟩ := hw'
          subst hw''
          obtain ⟨HV⟩ : Nonempty (Hid (Below w0.heap.size w0 (Go.Sort.grow (redrawn w0 nq) osq))) := ⟨below_regrown w0 nq osq⟩
          dsimp only
          clear g2 g3 g4 g5 g6 q2 q3 q4 q5 q6 c1 c2 c3
          generalize Go.Sort.grow (redrawn w0 nq) osq = wv at HV ⊢
          go_wp2_with fail
          go_meet
          case rel => exact ⟨by rw [← ht]; rfl, HV⟩
        | false =>
          simp only [h3, if_false, Bool.false_eq_true] at c3
          rw [h3] at ht
          skip
          refine wp_region_quiet_below (by assumption) (by kernel_rfl) ?_
          repeat (go_big_quiet_step (first | (go_at_call 6; refine Calls.regrown_of (c1 _ _)) | (go_at_call 11; first | with_reducible refine Calls.regrown_of (c2 _ _) | with_reducible refine Calls.regrown_of (c3 _ _))))
          refine wpQuiet_nil ?_
          intro _ hw'
          obtain ⟨⟨nq, osq⟩, hw''⟩ := hw'
          subst hw''
          obtain ⟨HV⟩ : Nonempty (Hid (Below w0.heap.size w0 (Go.Sort.grow (redrawn w0 nq) osq))) := ⟨below_regrown w0 nq osq⟩
          dsimp only
          clear g2 g3 g4 g5 g6 q2 q3 q4 q5 q6 c1 c2 c3
          generalize Go.Sort.grow (redrawn w0 nq) osq = wv at HV ⊢
          go_wp2_with fail
          go_meet
          case rel => exact ⟨by rw [← ht]; rfl, HV⟩
      | false =>
        simp only [h2, if_false, Bool.false_eq_true] at c2
        rw [h2] at ht
        cases h3 : longA y.r.att with
        | true =>
          simp only [h3, if_true] at c3
          rw [h3] at ht
          skip
          refine wp_region_quiet_below (by assumption) (by kernel_rfl) ?_
          repeat (go_big_quiet_step (first | (go_at_call 6; refine Calls.regrown_of (c1 _ _)) | (go_at_call 11; first | with_reducible refine Calls.regrown_of (c2 _ _) | with_reducible refine Calls.regrown_of (c3 _ _))))
          refine wpQuiet_nil ?_
          intro _ hw'
          obtain ⟨⟨nq, osq⟩, hw''⟩ := hw'
          subst hw''
          obtain ⟨HV⟩ : Nonempty (Hid (Below w0.heap.size w0 (Go.Sort.grow (redrawn w0 nq) osq))) := ⟨below_regrown w0 nq osq⟩
          dsimp only
          clear g2 g3 g4 g5 g6 q2 q3 q4 q5 q6 c1 c2 c3
          generalize Go.Sort.grow (redrawn w0 nq) osq = wv at HV ⊢
          go_wp2_with fail
          go_meet
          case rel => exact ⟨by rw [← ht]; rfl, HV⟩
        | false =>
          simp only [h3, if_false, Bool.false_eq_true] at c3
          rw [h3] at ht
          skip
          refine wp_region_quiet_below (by assumption) (by kernel_rfl) ?_
          repeat (go_big_quiet_step (first | (go_at_call 6; refine Calls.regrown_of (c1 _ _)) | (go_at_call 11; first | with_reducible refine Calls.regrown_of (c2 _ _) | with_reducible refine Calls.regrown_of (c3 _ _))))
          refine wpQuiet_nil ?_
          intro _ hw'
          obtain ⟨⟨nq, osq⟩, hw''⟩ := hw'
          subst hw''
          obtain ⟨HV⟩ : Nonempty (Hid (Below w0.heap.size w0 (Go.Sort.grow (redrawn w0 nq) osq))) := ⟨below_regrown w0 nq osq⟩
          dsimp only
          clear g2 g3 g4 g5 g6 q2 q3 q4 q5 q6 c1 c2 c3
          generalize Go.Sort.grow (redrawn w0 nq) osq = wv at HV ⊢
          go_wp2_with fail
          go_meet
          case rel => exact ⟨by rw [← ht]; rfl, HV⟩
  clear HB0
  obtain ⟨rfl, HB0'⟩ := hcut
  obtain ⟨HB0⟩ : Nonempty (Hid (Below w.heap.size w wc)) := ⟨HB.out.trans (HB0'.out.mono HB.out.size)⟩
  cases t with
  | true =>
    go_wp2_with fail
    go_ret
    exact ⟨rfl, HB0.out⟩
  | false =>
    obtain ⟨HLO⟩ : Nonempty (Hid (longRs X = false ∧ longA x.r.att = false ∧ longA y.r.att = false)) := ⟨by
      have h := HT.out
      rw [Bool.or_eq_false_iff, Bool.or_eq_false_iff] at h
      exact h⟩
    obtain ⟨HL⟩ : Nonempty (Hid (X.map (·.r) = L ∧ L.length = n ∧ n ≤ 30 ∧ ∀ x ∈ X, x.r.att.path.length ≤ 1000000 ∧ x.r.att.tags.length ≤ 1000000)) := ⟨by
      have := mod_of HLO.out.1
      exact ⟨HLN.out.1, HLN.out.2.1, by rw [← HLN.out.2.2]; exact this.1, this.2⟩⟩
    have hsr := rSort_any X p cap wc (HXW.out _ HB0.out).1 (fun z hz => ⟨(HXW.out _ HB0.out).2.1 z hz, HL.out.2.2.2 z hz⟩) (by rw [HLN.out.2.2]; have := HL.out.2.2.1; omega)
    rw [HLN.out.2.2] at hsr
    clear HT
    go_wp2_with fail
    refine hsr.mono ?_
    rintro e wr0 ⟨⟨v, Y, rfl, hown, hperm, hsorted⟩, hbr⟩
    clear hsr
    obtain ⟨HBR⟩ : Nonempty (Hid (Below w.heap.size w wr0 ∧ Below w0.heap.size w0 wr0)) := ⟨⟨HB0.out.trans (hbr.mono HB0.out.size), HB0'.out.trans (hbr.mono HB0'.out.size)⟩⟩
    obtain ⟨q2, d2, hv, hqd, -, hrowY, hqn⟩ := own_rvs hown
    obtain ⟨HY⟩ : Nonempty (Hid (Routes wr0 q2 (Y.map (·.r)) ∧ Y.Perm X ∧ SortedK keyV Y ∧ Y.length = n ∧ n ≤ 30)) := ⟨⟨routes_of hrowY fun z hz => (HXW.out wr0 HBR.out.1).2.1 z (hperm.mem_iff.1 hz), hperm, hsorted, by rw [hperm.length_eq]; exact HLN.out.2.2, HL.out.2.2.1⟩⟩
    obtain ⟨HYR⟩ : Nonempty (Hid (RvRow wr0 q2 Y ∧ n ≤ d2)) := ⟨⟨hrowY, by rw [← HY.out.2.2.2.1]; exact hqd⟩⟩
    rw [HY.out.2.2.2.1] at hv
    subst hv
    clear hown hperm hsorted hbr hqd hrowY hqn HB0 HB0'
    obtain ⟨HK⟩ : Nonempty (Hid (∀ w', Below wr0.heap.size wr0 w' → (fun w' : World => w'.cell? ⟨N, 0, none⟩ = some (.int .i64 x.r.dst.1) ∧ w'.cell? ⟨N, 1, none⟩ = some (.int .i64 x.r.dst.2) ∧ w'.cell? ⟨N, 2, none⟩ = some (.slice x.p x.r.att.path.length x.cp) ∧ w'.cell? ⟨N, 3, none⟩ = some (.int .i64 x.r.att.pref) ∧ w'.cell? ⟨N, 4, none⟩ = some (.int .i64 x.r.att.med) ∧ w'.cell? ⟨N, 5, none⟩ = some (.int .i64 x.r.att.org) ∧ w'.cell? ⟨N, 6, none⟩ = some (.slice x.q x.r.att.tags.length x.cq) ∧ w'.cell? ⟨N, 7, none⟩ = some (.int .i64 x.r.frm) ∧ w'.cell? ⟨N + 1, 0, none⟩ = some (.int .i64 y.r.dst.1) ∧ w'.cell? ⟨N + 1, 1, none⟩ = some (.int .i64 y.r.dst.2) ∧ w'.cell? ⟨N + 1, 2, none⟩ = some (.slice y.p y.r.att.path.length y.cp) ∧ w'.cell? ⟨N + 1, 3, none⟩ = some (.int .i64 y.r.att.pref) ∧ w'.cell? ⟨N + 1, 4, none⟩ = some (.int .i64 y.r.att.med) ∧ w'.cell? ⟨N + 1, 5, none⟩ = some (.int .i64 y.r.att.org) ∧ w'.cell? ⟨N + 1, 6, none⟩ = some (.slice y.q y.r.att.tags.length y.cq) ∧ w'.cell? ⟨N + 1, 7, none⟩ = some (.int .i64 y.r.frm)) w')) := ⟨fun w' hb => HKX.out w' (HBR.out.2.trans (hb.mono HBR.out.2.size))⟩
    obtain ⟨HB0⟩ : Nonempty (Hid (Below wr0.heap.size wr0 wr0.drew)) := ⟨(Below.refl _ _).drew⟩
    obtain ⟨HOWN⟩ : Nonempty (Hid (∀ w', Below wr0.heap.size wr0 w' → Calls Try.prog 13 #[.slice p n cap] w' fun r w'' => (∃ v, r = .returned v ∧ OwnRo w'' w'.heap.size v L (fun b => b < w'.heap.size)) ∧ Below w'.heap.size w' w'')) := ⟨fun w' hb => by
      have := ownRoutes_any L p cap w' (HXW.out w' (HBR.out.1.trans (hb.mono HBR.out.1.size))).2.2.2.2 (by rw [HL.out.2.1]; have := HL.out.2.2.1; omega) (modL HL.out.1 HL.out.2.2.2)
      rwa [HL.out.2.1] at this⟩
    obtain ⟨HBET⟩ : Nonempty (Hid (∀ w', Below wr0.heap.size wr0 w' → Calls Try.prog 10 #[roV x, roV y] w' fun r w'' => r = .returned (.bool (ltI (keyR x.r) (keyR y.r))) ∧ Below w'.heap.size w' w'')) := ⟨fun w' hb => by
      have h := HXW.out w' (HBR.out.1.trans (hb.mono HBR.out.1.size))
      exact better_any x y w' ⟨h.2.2.1, long_of HLO.out.2.1⟩ ⟨h.2.2.2.1, long_of HLO.out.2.2⟩⟩
    obtain ⟨HORD⟩ : Nonempty (Hid (∀ w', Below wr0.heap.size wr0 w' → Calls Try.prog 14 #[roV x, roV y] w' fun r w'' => r = .returned (.int .i64 (ordR x.r y.r)) ∧ Below w'.heap.size w' w'')) := ⟨fun w' hb => by
      have h := HXW.out w' (HBR.out.1.trans (hb.mono HBR.out.1.size))
      exact rOrder_rv x y w' ⟨h.2.2.1, long_of HLO.out.2.1⟩ ⟨h.2.2.2.1, long_of HLO.out.2.2⟩⟩
    unfold roV enc8 at HBET HORD
    obtain ⟨ob, hob⟩ : ∃ z, ordR x.r y.r = z := ⟨_, rfl⟩
    obtain ⟨bb, hbb⟩ : ∃ z, ltI (keyR x.r) (keyR y.r) = z := ⟨_, rfl⟩
    have hd : decide (ob < 0) = bb := by rw [← hob, ← hbb]; exact ordR_lt _ _
    have hne : (bb != bb) = false := by cases bb <;> rfl
    simp only [hob] at HORD
    simp only [hbb] at HBET
    clear hob hbb
    go_upto_region 5 with fail
    refine wp_region_held_drew (S := (fun w' : World => w'.cell? ⟨N, 0, none⟩ = some (.int .i64 x.r.dst.1) ∧ w'.cell? ⟨N, 1, none⟩ = some (.int .i64 x.r.dst.2) ∧ w'.cell? ⟨N, 2, none⟩ = some (.slice x.p x.r.att.path.length x.cp) ∧ w'.cell? ⟨N, 3, none⟩ = some (.int .i64 x.r.att.pref) ∧ w'.cell? ⟨N, 4, none⟩ = some (.int .i64 x.r.att.med) ∧ w'.cell? ⟨N, 5, none⟩ = some (.int .i64 x.r.att.org) ∧ w'.cell? ⟨N, 6, none⟩ = some (.slice x.q x.r.att.tags.length x.cq) ∧ w'.cell? ⟨N, 7, none⟩ = some (.int .i64 x.r.frm) ∧ w'.cell? ⟨N + 1, 0, none⟩ = some (.int .i64 y.r.dst.1) ∧ w'.cell? ⟨N + 1, 1, none⟩ = some (.int .i64 y.r.dst.2) ∧ w'.cell? ⟨N + 1, 2, none⟩ = some (.slice y.p y.r.att.path.length y.cp) ∧ w'.cell? ⟨N + 1, 3, none⟩ = some (.int .i64 y.r.att.pref) ∧ w'.cell? ⟨N + 1, 4, none⟩ = some (.int .i64 y.r.att.med) ∧ w'.cell? ⟨N + 1, 5, none⟩ = some (.int .i64 y.r.att.org) ∧ w'.cell? ⟨N + 1, 6, none⟩ = some (.slice y.q y.r.att.tags.length y.cq) ∧ w'.cell? ⟨N + 1, 7, none⟩ = some (.int .i64 y.r.frm))) (by kernel_rfl) ?_ (fun hHeld => ?_)
    · exact HK.out _ HB0.out
    refine wpAnyH_take (i := 0) (v := ?_) rfl (by kernel_rfl) (by kernel_rfl) (by kernel_rfl) (fun _ _ _ h => h) (Or.inl ⟨by rfl, ?_⟩) (by assumption) ?_
    rotate_left
    · (intro w hSw; (try dsimp only at hSw); go_simp; try (with_reducible rfl))
    try simp only [Act.put, List.setIfInBounds_toArray, List.set_cons_zero, List.set_cons_succ, List.getElem_toArray, List.getElem_cons_zero, List.getElem_cons_succ]
    refine wpAnyH_take (i := 3) (v := ?_) rfl (by kernel_rfl) (by kernel_rfl) (by kernel_rfl) (fun _ _ _ h => h) (Or.inl ⟨by rfl, ?_⟩) (by assumption) ?_
    rotate_left
    · (intro w hSw; (try dsimp only at hSw); go_simp; try (with_reducible rfl))
    try simp only [Act.put, List.setIfInBounds_toArray, List.set_cons_zero, List.set_cons_succ, List.getElem_toArray, List.getElem_cons_zero, List.getElem_cons_succ]
    refine wpAnyH_ready (rs := [1]) (by kernel_rfl) (by simp) ?_
    refine AllReadyH.cons rfl (fun K hK => ?_) AllReadyH.nil
    go_simp
    refine (HOWN.out _ HB0.out).mono ?_
    rintro e w1 ⟨⟨v1, rfl, ho⟩, hb1⟩
    obtain ⟨HB1⟩ : Nonempty (Hid (Below wr0.heap.size wr0 w1)) := ⟨HB0.out.trans (hb1.mono HB0.out.size)⟩
    obtain ⟨p1, c1, rfl, -, -, hro⟩ := ho.routes
    obtain ⟨X1, hX1, hrow1, hin1⟩ := rvs_of hro
    obtain ⟨HX1⟩ : Nonempty (Hid (X1.map (·.r) = X.map (·.r) ∧ X1.length = n ∧ RvRow w1 p1 X1 ∧ (∀ x ∈ X1, RvOk w1 x) ∧ Below wr0.heap.size wr0 w1)) := ⟨own_ok HL.out.1 HL.out.2.1 HL.out.2.2 hX1 hrow1 hin1 HB1.out⟩
    rw [show L.length = n from HL.out.2.1]
    clear hb1 ho hro hX1 hrow1 hin1
    refine hK.out _ _ ?_ (fun hHeld => ?_)
    · exact HK.out _ HB1.out
    clear hK K
    try simp only [Act.put, List.setIfInBounds_toArray, List.set_cons_zero, List.set_cons_succ, List.getElem_toArray, List.getElem_cons_zero, List.getElem_cons_succ]
    refine wpAnyH_ready (rs := [2]) (by kernel_rfl) (by simp) ?_
    refine AllReadyH.cons rfl (fun K hK => ?_) AllReadyH.nil
    go_simp
    have hsort := sort_any X1 p1 c1 w1 HX1.out.2.2.1 HX1.out.2.2.2.1 (by rw [HX1.out.2.1]; exact HL.out.2.2.1)
    rw [HX1.out.2.1] at hsort
    refine hsort.mono ?_
    rintro e w2 ⟨⟨p2, c2, Z, rfl, hz1, hz2, hz3, hz4⟩, hb2⟩
    clear hsort
    obtain ⟨HB2⟩ : Nonempty (Hid (Below wr0.heap.size wr0 w2)) := ⟨HB1.out.trans (hb2.mono HB1.out.size)⟩
    obtain ⟨HZ⟩ : Nonempty (Hid (Routes w2 p2 (Z.map (·.r)) ∧ (Z.map (·.r)).Perm (X.map (·.r)) ∧ SortedK keyV Z ∧ Z.length = n ∧ Below wr0.heap.size wr0 w2)) := ⟨⟨routes_of hz1 hz2, by rw [← HX1.out.1]; exact hz3, hz4, by have := hz3.length_eq; rw [List.length_map, List.length_map, HX1.out.2.1] at this; exact this, HB2.out⟩⟩
    clear hb2 hz1 hz2 hz3 hz4
    refine hK.out _ _ ?_ (fun hHeld => ?_)
    · exact HK.out _ HB2.out
    clear hK K
    try simp only [Act.put, List.setIfInBounds_toArray, List.set_cons_zero, List.set_cons_succ, List.getElem_toArray, List.getElem_cons_zero, List.getElem_cons_succ]
    refine wpAnyH_ready (rs := [4]) (by kernel_rfl) (by simp) ?_
    refine AllReadyH.cons rfl (fun K hK => ?_) AllReadyH.nil
    go_simp
    have hsame := same_sorted X Y Z p2 q2 c2 d2 n w2 wr0 HL.out.2.2.2 HZ.out HY.out
    refine hsame.mono ?_
    rintro e w3 ⟨rfl, hb3⟩
    clear hsame
    obtain ⟨HB3⟩ : Nonempty (Hid (Below wr0.heap.size wr0 w3)) := ⟨HB2.out.trans (hb3.mono HB2.out.size)⟩
    clear hb3
    refine hK.out _ _ ?_ (fun hHeld => ?_)
    · exact HK.out _ HB3.out
    clear hK K
    try simp only [Act.put, List.setIfInBounds_toArray, List.set_cons_zero, List.set_cons_succ, List.getElem_toArray, List.getElem_cons_zero, List.getElem_cons_succ]
    refine wpAnyH_take (i := 5) (v := ?_) rfl (by kernel_rfl) (by kernel_rfl) (by kernel_rfl) (fun _ _ _ h => h) (Or.inl ⟨by rfl, ?_⟩) (by assumption) ?_
    rotate_left
    · (intro w hSw; (try dsimp only at hSw); go_simp; try (with_reducible rfl))
    try simp only [Act.put, List.setIfInBounds_toArray, List.set_cons_zero, List.set_cons_succ, List.getElem_toArray, List.getElem_cons_zero, List.getElem_cons_succ]
    refine wpAnyH_take (i := 6) (v := ?_) rfl (by kernel_rfl) (by kernel_rfl) (by kernel_rfl) (fun _ _ _ h => h) (Or.inl ⟨by rfl, ?_⟩) (by assumption) ?_
    rotate_left
    · (intro w hSw; (try dsimp only at hSw); go_simp; try (with_reducible rfl))
    try simp only [Act.put, List.setIfInBounds_toArray, List.set_cons_zero, List.set_cons_succ, List.getElem_toArray, List.getElem_cons_zero, List.getElem_cons_succ]
    refine wpAnyH_take (i := 7) (v := ?_) rfl (by kernel_rfl) (by kernel_rfl) (by kernel_rfl) (fun _ _ _ h => h) (Or.inl ⟨by rfl, ?_⟩) (by assumption) ?_
    rotate_left
    · (intro w hSw; (try dsimp only at hSw); go_simp; try (with_reducible rfl))
    try simp only [Act.put, List.setIfInBounds_toArray, List.set_cons_zero, List.set_cons_succ, List.getElem_toArray, List.getElem_cons_zero, List.getElem_cons_succ]
    refine wpAnyH_take (i := 8) (v := ?_) rfl (by kernel_rfl) (by kernel_rfl) (by kernel_rfl) (fun _ _ _ h => h) (Or.inl ⟨by rfl, ?_⟩) (by assumption) ?_
    rotate_left
    · (intro w hSw; (try dsimp only at hSw); go_simp; try (with_reducible rfl))
    try simp only [Act.put, List.setIfInBounds_toArray, List.set_cons_zero, List.set_cons_succ, List.getElem_toArray, List.getElem_cons_zero, List.getElem_cons_succ]
    refine wpAnyH_take (i := 10) (v := ?_) rfl (by kernel_rfl) (by kernel_rfl) (by kernel_rfl) (fun _ _ _ h => h) (Or.inl ⟨by rfl, ?_⟩) (by assumption) ?_
    rotate_left
    · (intro w hSw; (try dsimp only at hSw); go_simp; try (with_reducible rfl))
    try simp only [Act.put, List.setIfInBounds_toArray, List.set_cons_zero, List.set_cons_succ, List.getElem_toArray, List.getElem_cons_zero, List.getElem_cons_succ]
    refine wpAnyH_take (i := 11) (v := ?_) rfl (by kernel_rfl) (by kernel_rfl) (by kernel_rfl) (fun _ _ _ h => h) (Or.inl ⟨by rfl, ?_⟩) (by assumption) ?_
    rotate_left
    · (intro w hSw; (try dsimp only at hSw); go_simp; try (with_reducible rfl))
    try simp only [Act.put, List.setIfInBounds_toArray, List.set_cons_zero, List.set_cons_succ, List.getElem_toArray, List.getElem_cons_zero, List.getElem_cons_succ]
    refine wpAnyH_ready (rs := [9]) (by kernel_rfl) (by simp) ?_
    refine AllReadyH.cons rfl (fun K hK => ?_) AllReadyH.nil
    go_simp
    refine (HBET.out _ HB3.out).mono ?_
    rintro e w4 ⟨rfl, hb4⟩
    obtain ⟨HB4⟩ : Nonempty (Hid (Below wr0.heap.size wr0 w4)) := ⟨HB3.out.trans (hb4.mono HB3.out.size)⟩
    clear hb4
    refine hK.out _ _ ?_ (fun hHeld => ?_)
    · exact HK.out _ HB4.out
    clear hK K
    try simp only [Act.put, List.setIfInBounds_toArray, List.set_cons_zero, List.set_cons_succ, List.getElem_toArray, List.getElem_cons_zero, List.getElem_cons_succ]
    refine wpAnyH_ready (rs := [12]) (by kernel_rfl) (by simp) ?_
    refine AllReadyH.cons rfl (fun K hK => ?_) AllReadyH.nil
    go_simp
    refine (HORD.out _ HB4.out).mono ?_
    rintro e w5 ⟨rfl, hb5⟩
    obtain ⟨HB5⟩ : Nonempty (Hid (Below wr0.heap.size wr0 w5)) := ⟨HB4.out.trans (hb5.mono HB4.out.size)⟩
    clear hb5
    refine hK.out _ _ ?_ (fun hHeld => ?_)
    · exact HK.out _ HB5.out
    clear hK K
    try simp only [Act.put, List.setIfInBounds_toArray, List.set_cons_zero, List.set_cons_succ, List.getElem_toArray, List.getElem_cons_zero, List.getElem_cons_succ]
    refine wpAnyH_take (i := 13) (v := ?_) rfl (by kernel_rfl) (by kernel_rfl) (by kernel_rfl) (fun _ _ _ h => h) (Or.inl ⟨by rfl, ?_⟩) (by assumption) ?_
    rotate_left
    · (intro w hSw; (try dsimp only at hSw); go_simp; try (with_reducible rfl))
    try simp only [Act.put, List.setIfInBounds_toArray, List.set_cons_zero, List.set_cons_succ, List.getElem_toArray, List.getElem_cons_zero, List.getElem_cons_succ]
    refine wpAnyH_take (i := 14) (v := ?_) rfl (by kernel_rfl) (by kernel_rfl) (by kernel_rfl) (fun _ _ _ h => h) (Or.inl ⟨by rfl, ?_⟩) (by assumption) ?_
    rotate_left
    · (intro w hSw; (try dsimp only at hSw); go_simp; try (with_reducible rfl))
    try simp only [Act.put, List.setIfInBounds_toArray, List.set_cons_zero, List.set_cons_succ, List.getElem_toArray, List.getElem_cons_zero, List.getElem_cons_succ]
    refine wpAnyH_take (i := 15) (v := ?_) rfl (by kernel_rfl) (by kernel_rfl) (by kernel_rfl) (fun _ _ _ h => h) (Or.inl ⟨by rfl, ?_⟩) (by assumption) ?_
    rotate_left
    · (intro w hSw; (try dsimp only at hSw); go_simp; try (with_reducible rfl))
    try simp only [Act.put, List.setIfInBounds_toArray, List.set_cons_zero, List.set_cons_succ, List.getElem_toArray, List.getElem_cons_zero, List.getElem_cons_succ]
    refine wpAnyH_done (by kernel_rfl) ?_ _
    clear hHeld HBET HORD hd hne
    go_wp2_with fail
    refine (HOWN.out _ HB5.out).mono ?_
    rintro e w6 ⟨⟨v1, rfl, ho⟩, hb6⟩
    obtain ⟨HB6⟩ : Nonempty (Hid (Below wr0.heap.size wr0 w6)) := ⟨HB5.out.trans (hb6.mono HB5.out.size)⟩
    obtain ⟨p6, c6, rfl, -, -, hro⟩ := ho.routes
    obtain ⟨X6, hX6, hrow6, hin6⟩ := rvs_of hro
    obtain ⟨HX6⟩ : Nonempty (Hid (X6.map (·.r) = X.map (·.r) ∧ X6.length = n ∧ RvRow w6 p6 X6 ∧ (∀ x ∈ X6, RvOk w6 x) ∧ Below wr0.heap.size wr0 w6)) := ⟨own_ok HL.out.1 HL.out.2.1 HL.out.2.2 hX6 hrow6 hin6 HB6.out⟩
    rw [show L.length = n from HL.out.2.1]
    clear hb6 ho hro hX6 hrow6 hin6
    have hbest := best_any X6 p6 c6 w6 HX6.out.2.2.1 HX6.out.2.2.2.1 (by rw [HX6.out.2.1]; have := HL.out.2.2.1; omega)
    rw [HX6.out.2.1] at hbest
    go_wp2_with fail
    refine hbest.mono ?_
    rintro e w7 ⟨⟨z, rfl, hz, -, hz1⟩, hb7⟩
    obtain ⟨HB7⟩ : Nonempty (Hid (Below wr0.heap.size wr0 w7)) := ⟨HB6.out.trans (hb7.mono HB6.out.size)⟩
    obtain ⟨HZZ⟩ : Nonempty (Hid (RvIn w7 z ∧ (0 < n → (Y.take 1).map (·.r) = [z.r] ∧ z.r.att.path.length ≤ 1000000 ∧ z.r.att.tags.length ≤ 1000000))) := ⟨⟨hz, fun h => by
      obtain ⟨⟨x1, hx1, he⟩, hmin⟩ := hz1 h
      have hm : z.r ∈ X.map (·.r) := by rw [← HX6.out.1, he]; exact List.mem_map_of_mem hx1
      obtain ⟨x2, hx2, he2⟩ := List.mem_map.1 hm
      refine ⟨best_head HY.out.2.2.1 HY.out.2.1 (by rw [HLN.out.2.2]; exact h) ⟨x2, hx2, he2.symm⟩ fun a ha => ?_, by rw [← he2]; exact HL.out.2.2.2 x2 hx2⟩
      have : a.r ∈ X6.map (·.r) := by rw [HX6.out.1]; exact List.mem_map_of_mem ha
      obtain ⟨a', ha', e'⟩ := List.mem_map.1 this
      rw [← e']
      exact hmin a' ha'⟩⟩
    clear hbest hz hz1 hb7
    obtain ⟨M, hM⟩ : ∃ M, Hid (w7.heap.size = M) := ⟨_, show _ = _ from rfl⟩
    obtain ⟨⟨⟨za, zn⟩, ⟨zP, zf, zm, zo, zT⟩, zu⟩, zp, zcp, zq, zcq⟩ := z
    obtain ⟨W8, hW8⟩ : ∃ W', Hid (w7.alloc (.cells #[.int .i64 za, .int .i64 zn, .slice zp zP.length zcp, .int .i64 zf, .int .i64 zm, .int .i64 zo, .slice zq zT.length zcq, .int .i64 zu] 31) = W') := ⟨_, show _ = _ from rfl⟩
    obtain ⟨H8⟩ : Nonempty (Hid (Below wr0.heap.size wr0 W8 ∧ W8.heap[M]? = some (.cells #[.int .i64 za, .int .i64 zn, .slice zp zP.length zcp, .int .i64 zf, .int .i64 zm, .int .i64 zo, .slice zq zT.length zcq, .int .i64 zu] 31 (0, 0)) ∧ Below w7.heap.size w7 W8)) := ⟨by
      rw [← hW8.out, ← hM.out]
      exact ⟨HB7.out.trans ((below_alloc _ _).mono HB7.out.size), Go.heap_alloc_new _ _, below_alloc _ _⟩⟩
    simp only [roV, enc8]
    go_upto_region 8 with fail
    rw [show w7.alloc (.cells #[.int .i64 za, .int .i64 zn, .slice zp zP.length zcp, .int .i64 zf, .int .i64 zm, .int .i64 zo, .slice zq zT.length zcq, .int .i64 zu] 31) = W8 from hW8.out, show w7.heap.size = M from hM.out]
    clear HOWN
    by_cases hn0 : n = 0
    · subst hn0
      go_wp2_with fail
      go_quiet (fail)
      go_wp2_with fail
      go_ret
      exact ⟨rfl, below_drewN (HBR.out.1.trans (H8.out.1.mono HBR.out.1.size)) _⟩
    · have hn1 : 0 < n := by omega
      have hnz : (0 : Int) < (n : Int) := by omega
      have hdn : decide (0 < n) = true := decide_eq_true hn1
      have hd1 : (1 : Int) ≤ (d2 : Int) := by have := HYR.out.2; omega
      have hd2 : (1 : Int) ≤ (n : Int) := by omega
      have hd3 : 1 ≤ d2 := by omega
      obtain ⟨HSAME⟩ : Nonempty (Hid (Calls Try.prog 8 #[.slice (some ⟨W8.heap.size, 0, none⟩) 1 1, .slice q2 1 d2] (W8.alloc (.cells #[.int .i64 za, .int .i64 zn, .slice zp zP.length zcp, .int .i64 zf, .int .i64 zm, .int .i64 zo, .slice zq zT.length zcq, .int .i64 zu] 31)).drew fun r w' => r = .returned (.bool true) ∧ Below W8.heap.size W8 w')) := ⟨by
        obtain ⟨h1, h2⟩ := HZZ.out.2 hn1
        have hbz : Below W8.heap.size W8 (W8.alloc (.cells #[.int .i64 za, .int .i64 zn, .slice zp zP.length zcp, .int .i64 zf, .int .i64 zm, .int .i64 zo, .slice zq zT.length zcq, .int .i64 zu] 31)).drew := (below_alloc _ _).drew
        have hbw : Below w7.heap.size w7 (W8.alloc (.cells #[.int .i64 za, .int .i64 zn, .slice zp zP.length zcp, .int .i64 zf, .int .i64 zm, .int .i64 zo, .slice zq zT.length zcq, .int .i64 zu] 31)).drew := H8.out.2.2.trans (hbz.mono H8.out.2.2.size)
        have r1 : Routes (W8.alloc (.cells #[.int .i64 za, .int .i64 zn, .slice zp zP.length zcp, .int .i64 zf, .int .i64 zm, .int .i64 zo, .slice zq zT.length zcq, .int .i64 zu] 31)).drew (some ⟨W8.heap.size, 0, none⟩) [⟨(za, zn), ⟨zP, zf, zm, zo, zT⟩, zu⟩] :=
          routes_of (X := [⟨⟨(za, zn), ⟨zP, zf, zm, zo, zT⟩, zu⟩, zp, zcp, zq, zcq⟩]) ((rv_alloc W8 ⟨⟨(za, zn), ⟨zP, zf, zm, zo, zT⟩, zu⟩, zp, zcp, zq, zcq⟩).below (Below.refl _ _).drew) fun a ha => by
            rw [List.mem_singleton] at ha
            subst ha
            exact ⟨HZZ.out.1.1.below hbw, HZZ.out.1.2.below hbw⟩
        have r2 : Routes (W8.alloc (.cells #[.int .i64 za, .int .i64 zn, .slice zp zP.length zcp, .int .i64 zf, .int .i64 zm, .int .i64 zo, .slice zq zT.length zcq, .int .i64 zu] 31)).drew q2 ((Y.take 1).map (·.r)) := fun i hi => by
          have hi1 : i < (Y.map (·.r)).length := by simp at hi ⊢; omega
          obtain ⟨b, o, e, c⟩ := ((HY.out.1.below H8.out.1).below hbz) i hi1
          refine ⟨b, o, e, ?_⟩
          have e2 : ((Y.take 1).map (·.r))[i] = (Y.map (·.r))[i] := by simp
          rw [e2]
          exact c
        have m1 : Mod [(⟨(za, zn), ⟨zP, zf, zm, zo, zT⟩, zu⟩ : Ro)] := fun r hr => by rw [List.mem_singleton] at hr; subst hr; exact h2
        have := sameRoutes_any _ _ _ q2 1 d2 _ r1 r2 (by simp) (by rw [h1]; simp) m1 (by rw [h1]; exact m1)
        rw [h1, decide_eq_true rfl] at this
        refine this.mono ?_
        rintro r w' ⟨e, hb⟩
        exact ⟨e, hbz.trans (hb.mono hbz.size)⟩⟩
      obtain ⟨HBX⟩ : Nonempty (Hid ((fun w' : World => w'.cell? ⟨M, 0, none⟩ = some (.int .i64 za) ∧ w'.cell? ⟨M, 1, none⟩ = some (.int .i64 zn) ∧ w'.cell? ⟨M, 2, none⟩ = some (.slice zp zP.length zcp) ∧ w'.cell? ⟨M, 3, none⟩ = some (.int .i64 zf) ∧ w'.cell? ⟨M, 4, none⟩ = some (.int .i64 zm) ∧ w'.cell? ⟨M, 5, none⟩ = some (.int .i64 zo) ∧ w'.cell? ⟨M, 6, none⟩ = some (.slice zq zT.length zcq) ∧ w'.cell? ⟨M, 7, none⟩ = some (.int .i64 zu)) W8.drew ∧ (fun w' : World => w'.cell? ⟨M, 0, none⟩ = some (.int .i64 za) ∧ w'.cell? ⟨M, 1, none⟩ = some (.int .i64 zn) ∧ w'.cell? ⟨M, 2, none⟩ = some (.slice zp zP.length zcp) ∧ w'.cell? ⟨M, 3, none⟩ = some (.int .i64 zf) ∧ w'.cell? ⟨M, 4, none⟩ = some (.int .i64 zm) ∧ w'.cell? ⟨M, 5, none⟩ = some (.int .i64 zo) ∧ w'.cell? ⟨M, 6, none⟩ = some (.slice zq zT.length zcq) ∧ w'.cell? ⟨M, 7, none⟩ = some (.int .i64 zu)) (W8.drew.alloc (.cells #[.int .i64 za, .int .i64 zn, .slice zp zP.length zcp, .int .i64 zf, .int .i64 zm, .int .i64 zo, .slice zq zT.length zcq, .int .i64 zu] 31)))) := ⟨by
        obtain ⟨k0, k1, k2, k3, k4, k5, k6, k7, -⟩ := heap_cells8 H8.out.2.1
        have h1 : Below W8.heap.size W8 W8.drew := (Below.refl _ _).drew
        have h2 : Below W8.heap.size W8 (W8.drew.alloc (.cells #[.int .i64 za, .int .i64 zn, .slice zp zP.length zcp, .int .i64 zf, .int .i64 zm, .int .i64 zo, .slice zq zT.length zcq, .int .i64 zu] 31)) := h1.alloc (Nat.le_refl _) _
        exact ⟨⟨cell_kept h1 k0, cell_kept h1 k1, cell_kept h1 k2, cell_kept h1 k3, cell_kept h1 k4, cell_kept h1 k5, cell_kept h1 k6, cell_kept h1 k7⟩, ⟨cell_kept h2 k0, cell_kept h2 k1, cell_kept h2 k2, cell_kept h2 k3, cell_kept h2 k4, cell_kept h2 k5, cell_kept h2 k6, cell_kept h2 k7⟩⟩⟩
      obtain ⟨HBM⟩ : Nonempty (Hid (∀ w', Below W8.heap.size W8 w' → (fun w' : World => w'.cell? ⟨M, 0, none⟩ = some (.int .i64 za) ∧ w'.cell? ⟨M, 1, none⟩ = some (.int .i64 zn) ∧ w'.cell? ⟨M, 2, none⟩ = some (.slice zp zP.length zcp) ∧ w'.cell? ⟨M, 3, none⟩ = some (.int .i64 zf) ∧ w'.cell? ⟨M, 4, none⟩ = some (.int .i64 zm) ∧ w'.cell? ⟨M, 5, none⟩ = some (.int .i64 zo) ∧ w'.cell? ⟨M, 6, none⟩ = some (.slice zq zT.length zcq) ∧ w'.cell? ⟨M, 7, none⟩ = some (.int .i64 zu)) w')) := ⟨fun w' hb => by
        obtain ⟨k0, k1, k2, k3, k4, k5, k6, k7, -⟩ := heap_cells8 H8.out.2.1
        exact ⟨cell_kept hb k0, cell_kept hb k1, cell_kept hb k2, cell_kept hb k3, cell_kept hb k4, cell_kept hb k5, cell_kept hb k6, cell_kept hb k7⟩⟩
      clear hn0 hn1
      go_upto_region 10 with fail
      refine wp_region_held_drew (S := (fun w' : World => w'.cell? ⟨M, 0, none⟩ = some (.int .i64 za) ∧ w'.cell? ⟨M, 1, none⟩ = some (.int .i64 zn) ∧ w'.cell? ⟨M, 2, none⟩ = some (.slice zp zP.length zcp) ∧ w'.cell? ⟨M, 3, none⟩ = some (.int .i64 zf) ∧ w'.cell? ⟨M, 4, none⟩ = some (.int .i64 zm) ∧ w'.cell? ⟨M, 5, none⟩ = some (.int .i64 zo) ∧ w'.cell? ⟨M, 6, none⟩ = some (.slice zq zT.length zcq) ∧ w'.cell? ⟨M, 7, none⟩ = some (.int .i64 zu))) (by kernel_rfl) ?_ (fun hHeld => ?_)
      · exact HBX.out.1
      refine wpAnyH_take (i := 0) (v := ?_) rfl (by kernel_rfl) (by kernel_rfl) (by kernel_rfl) (fun _ _ _ h => h) (Or.inl ⟨by rfl, ?_⟩) (by assumption) ?_
      rotate_left
      · (intro w hSw; (try dsimp only at hSw); go_simp; try (with_reducible rfl))
      try simp only [Act.put, List.setIfInBounds_toArray, List.set_cons_zero, List.set_cons_succ, List.getElem_toArray, List.getElem_cons_zero, List.getElem_cons_succ]
      refine wpAnyH_take (i := 1) (v := ?_) rfl (by kernel_rfl) (by kernel_rfl) (by kernel_rfl) (fun _ _ _ h => h) (Or.inl ⟨by rfl, ?_⟩) (by assumption) ?_
      rotate_left
      · (intro w hSw; (try dsimp only at hSw); go_simp; try (with_reducible rfl))
      try simp only [Act.put, List.setIfInBounds_toArray, List.set_cons_zero, List.set_cons_succ, List.getElem_toArray, List.getElem_cons_zero, List.getElem_cons_succ]
      refine wpAnyH_take (i := 2) (v := ?_) rfl (by kernel_rfl) (by kernel_rfl) (by kernel_rfl) (fun _ _ _ h => h) (Or.inl ⟨by rfl, ?_⟩) (by assumption) ?_
      rotate_left
      · (intro w hSw; (try dsimp only at hSw); go_simp; try (with_reducible rfl))
      try simp only [Act.put, List.setIfInBounds_toArray, List.set_cons_zero, List.set_cons_succ, List.getElem_toArray, List.getElem_cons_zero, List.getElem_cons_succ]
      refine wpAnyH_take (i := 3) (v := ?_) rfl (by kernel_rfl) (by kernel_rfl) (by kernel_rfl) (fun _ _ _ h => h) (Or.inl ⟨by rfl, ?_⟩) (by assumption) ?_
      rotate_left
      · (intro w hSw; (try dsimp only at hSw); go_simp; try (with_reducible rfl))
      try simp only [Act.put, List.setIfInBounds_toArray, List.set_cons_zero, List.set_cons_succ, List.getElem_toArray, List.getElem_cons_zero, List.getElem_cons_succ]
      refine wpAnyH_take (i := 5) (v := ?_) rfl (by kernel_rfl) (by kernel_rfl) (by kernel_rfl) (fun _ _ _ h => h) (Or.inl ⟨by rfl, ?_⟩) (by assumption) ?_
      rotate_left
      · (intro w hSw; (try dsimp only at hSw); go_simp; try (with_reducible rfl))
      try simp only [Act.put, List.setIfInBounds_toArray, List.set_cons_zero, List.set_cons_succ, List.getElem_toArray, List.getElem_cons_zero, List.getElem_cons_succ]
      refine wpAnyH_take (i := 6) (v := ?_) rfl (by kernel_rfl) (by kernel_rfl) (by kernel_rfl) (fun _ _ _ h => h) (Or.inl ⟨by rfl, ?_⟩) (by assumption) ?_
      rotate_left
      · (intro w hSw; (try dsimp only at hSw); go_simp; try (with_reducible rfl))
      try simp only [Act.put, List.setIfInBounds_toArray, List.set_cons_zero, List.set_cons_succ, List.getElem_toArray, List.getElem_cons_zero, List.getElem_cons_succ]
      refine wpAnyH_ready (rs := [4]) (by kernel_rfl) (by simp) ?_
      refine AllReadyH.cons rfl (fun K hK => ?_) AllReadyH.nil
      go_simp
      refine hK.out _ _ ?_ (fun hHeld => ?_)
      · exact HBX.out.2
      clear hK K
      try simp only [Act.put, List.setIfInBounds_toArray, List.set_cons_zero, List.set_cons_succ, List.getElem_toArray, List.getElem_cons_zero, List.getElem_cons_succ]
      refine wpAnyH_ready (rs := [7]) (by kernel_rfl) (by simp) ?_
      refine AllReadyH.cons rfl (fun K hK => ?_) AllReadyH.nil
      go_simp
      refine HSAME.out.mono ?_
      rintro e w9 ⟨rfl, hb9⟩
      obtain ⟨HB9⟩ : Nonempty (Hid (Below W8.heap.size W8 w9)) := ⟨hb9⟩
      clear hb9
      refine hK.out _ _ ?_ (fun hHeld => ?_)
      · exact HBM.out _ HB9.out
      clear hK K
      try simp only [Act.put, List.setIfInBounds_toArray, List.set_cons_zero, List.set_cons_succ, List.getElem_toArray, List.getElem_cons_zero, List.getElem_cons_succ]
      refine wpAnyH_take (i := 8) (v := ?_) rfl (by kernel_rfl) (by kernel_rfl) (by kernel_rfl) (fun _ _ _ h => h) (Or.inl ⟨by rfl, ?_⟩) (by assumption) ?_
      rotate_left
      · (intro w hSw; (try dsimp only at hSw); go_simp; try (with_reducible rfl))
      try simp only [Act.put, List.setIfInBounds_toArray, List.set_cons_zero, List.set_cons_succ, List.getElem_toArray, List.getElem_cons_zero, List.getElem_cons_succ]
      refine wpAnyH_take (i := 9) (v := ?_) rfl (by kernel_rfl) (by kernel_rfl) (by kernel_rfl) (fun _ _ _ h => h) (Or.inl ⟨by rfl, ?_⟩) (by assumption) ?_
      rotate_left
      · (intro w hSw; (try dsimp only at hSw); go_simp; try (with_reducible rfl))
      try simp only [Act.put, List.setIfInBounds_toArray, List.set_cons_zero, List.set_cons_succ, List.getElem_toArray, List.getElem_cons_zero, List.getElem_cons_succ]
      refine wpAnyH_done (by kernel_rfl) ?_ _
      clear hHeld
      go_wp2_with fail
      go_ret
      exact ⟨rfl, HBR.out.1.trans ((H8.out.1.trans (HB9.out.mono H8.out.1.size)).mono HBR.out.1.size)⟩
end Go.Proofs.Ytkcacdlgmapjjaa
