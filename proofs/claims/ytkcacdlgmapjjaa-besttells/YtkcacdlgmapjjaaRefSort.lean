/-
  The document's SortRoutes: what it returns.
-/
import Derived.Test.YtkcacdlgmapjjaaRefOrder
import Derived.Test.YtkcacdlgmapjjaaRvRow
import Derived.Lib.QuietBelow
import Derived.Deep.CutBlock
import Derived.Deep.CutRange
namespace Go.Proofs.Ytkcacdlgmapjjaa
open Go.RowKit

/-- a route's list, of a route that lies somewhere. -/
def keyV (x : RV) : List Int := keyR x.r
theorem rOrder_rv (x y : RV) (w : World) (hx : RvOk w x) (hy : RvOk w y) :
    Calls Try.prog 14 #[roV x, roV y] w fun r w' => r = .returned (.int .i64 (ordR x.r y.r)) ∧ Below w.heap.size w w' := rOrder_any x y w hx.1 hy.1 hx.2.1 hx.2.2 hy.2.1 hy.2.2
theorem rvCell8 {w : World} {b o : Nat} {x : RV} (h : RvCell w b o x) : w.cell? ⟨b, o, none⟩ = some (.int .i64 x.r.dst.1) ∧ w.cell? ⟨b, o + 1, none⟩ = some (.int .i64 x.r.dst.2) ∧ w.cell? ⟨b, o + 2, none⟩ = some (.slice x.p x.r.att.path.length x.cp) ∧ w.cell? ⟨b, o + 3, none⟩ = some (.int .i64 x.r.att.pref) ∧ w.cell? ⟨b, o + 4, none⟩ = some (.int .i64 x.r.att.med) ∧ w.cell? ⟨b, o + 5, none⟩ = some (.int .i64 x.r.att.org) ∧ w.cell? ⟨b, o + 6, none⟩ = some (.slice x.q x.r.att.tags.length x.cq) ∧ w.cell? ⟨b, o + 7, none⟩ = some (.int .i64 x.r.frm) :=
  ⟨h 0 _ rfl, h 1 _ rfl, h 2 _ rfl, h 3 _ rfl, h 4 _ rfl, h 5 _ rfl, h 6 _ rfl, h 7 _ rfl⟩

theorem rv_alloc (w : World) (x : RV) : RvRow (w.alloc (.cells #[.int .i64 x.r.dst.1, .int .i64 x.r.dst.2, .slice x.p x.r.att.path.length x.cp, .int .i64 x.r.att.pref, .int .i64 x.r.att.med, .int .i64 x.r.att.org, .slice x.q x.r.att.tags.length x.cq, .int .i64 x.r.frm] 31)) (some ⟨w.heap.size, 0, none⟩) [x] := fun i hi => by
  have : i = 0 := by simp at hi; omega
  subst this
  refine ⟨w.heap.size, 0, rfl, fun k v hk => ?_⟩
  rw [World.cell?_alloc_at _ _ _ _ rfl]
  have hk8 : k < 8 := (List.getElem?_eq_some_iff.1 hk).1
  simpa [enc8] using hk
set_option linter.unusedVariables false in
set_option linter.unusedSimpArgs false in
set_option maxRecDepth 100000 in
set_option maxHeartbeats 16000000 in
theorem rSort_any (X : List RV) (p : Option Addr) (cap : Nat) (w : World) (hc : RvRow w p X) (hr : ∀ x ∈ X, RvOk w x) (hl : X.length ≤ 1000) :
    Calls Try.prog 12 #[.slice p X.length cap] w fun e w' => (∃ v Y, e = .returned v ∧ w'.ownsRow w.heap.size 31 8 v Y.length (flat8 Y) ∧ Y.Perm X ∧ SortedK keyV Y) ∧ Below w.heap.size w w' := by
  have mixed : Try.prog.follows .mixedOrders = true := by kernel_rfl
  obtain ⟨i0, hi, hz0, hz1, hz2⟩ := infoRv
  obtain ⟨N, hN⟩ : ∃ N, Hid (w.heap.size = N) := ⟨_, show _ = _ from rfl⟩
  obtain ⟨HX⟩ : Nonempty (Hid (∀ w', Below w.heap.size w w' → RvRow w' p X ∧ ∀ x ∈ X, RvOk w' x)) := ⟨fun w' hb => ⟨hc.below hb, fun x hx => (hr x hx).below hb⟩⟩
  obtain ⟨HS⟩ : Nonempty (Hid (Below w.heap.size w w ∧ w.ownsRow w.heap.size 31 8 (.slice none 0 0) ([] : List RV).length (flat8 []) )) := ⟨Below.refl _ _, World.ownsRow_nil _ _ _ _⟩
  obtain ⟨n, hn⟩ : ∃ n : Nat, X.length = n := ⟨_, rfl⟩
  obtain ⟨HL⟩ : Nonempty (Hid (X.length = n)) := ⟨hn⟩
  rw [hn] at hl ⊢
  clear hc hr hn
  go_enter Try.func12, Try.ntmps12
  go_wp2_with fail
  go_loopw [3, 4] (fun u i wr => ∃ (k : Nat) (Y : List RV), i = .int .i64 k ∧ k ≤ n ∧ Hid (Y.length = k) ∧ Hid (wr.ownsRow w.heap.size 31 8 u Y.length (flat8 Y) ∧ Y.Perm (X.take k) ∧ SortedK keyV Y) ∧ Hid (Below w.heap.size w wr)) (fun _ i _ => n - (intOf i).toNat)
  case atStart => exact ⟨0, [], rfl, Nat.zero_le _, (show _ = _ from rfl), ⟨HS.out.2, List.Perm.refl _, List.Pairwise.nil⟩, HS.out.1⟩
  case round =>
    clear HS
    obtain ⟨k, Y, rfl, hk, HY, HO, HW⟩ := hrel
    by_cases hlt : k < n
    · have hltz : (k : Int) < (n : Int) := by omega
      obtain ⟨q, c, hv, hqc, hrow, hnil⟩ : ∃ q c, u3 = .slice q k c ∧ k ≤ c ∧ RvRow wr q Y ∧ ((q = none ∧ Y = [] ∧ k = 0 ∧ c = 0) ∨ ∃ g, q = some ⟨g, 0, none⟩) := by
        rcases own_rvs2 HO.out.1 with ⟨h1, h2⟩ | ⟨g, c, h1, h2, h3, h4⟩
        · have hk0 : k = 0 := by rw [← HY.out, h2]; rfl
          subst hk0
          exact ⟨none, 0, h1, Nat.le_refl _, by rw [h2]; exact rvRow_nil _ _, .inl ⟨rfl, h2, rfl, rfl⟩⟩
        · rw [HY.out] at h1 h2
          exact ⟨_, c, h1, h2, h4, .inr ⟨g, rfl⟩⟩
      subst hv
      have hkX : k < X.length := by rw [HL.out]; exact hlt
      obtain ⟨x, hx⟩ : ∃ x, Hid (X[k] = x) := ⟨_, show _ = _ from rfl⟩
      obtain ⟨b, o, rfl, hcell⟩ := (HX.out wr HW.out).1 k hkX
      rw [show X[k] = x from hx.out] at hcell
      obtain ⟨HXX⟩ : Nonempty (Hid (RvCell wr b (o + k * 8) x ∧ RvRow wr q Y ∧ RvOk wr x ∧ ∀ y ∈ Y, RvOk wr y)) := ⟨⟨hcell, hrow, by rw [← hx.out]; exact (HX.out wr HW.out).2 _ (List.getElem_mem hkX), fun y hy => (HX.out wr HW.out).2 y (List.mem_of_mem_take (HO.out.2.1.mem_iff.1 hy))⟩⟩
      obtain ⟨HNIL⟩ : Nonempty (Hid ((q = none ∧ Y = [] ∧ k = 0 ∧ c = 0) ∨ ∃ g, q = some ⟨g, 0, none⟩)) := ⟨hnil⟩
      clear hcell hrow hnil
      obtain ⟨w1, hw1⟩ : ∃ x, Hid (wr = x) := ⟨_, show _ = _ from rfl⟩
      rw [show wr = w1 from hw1.out] at HO HW HXX ⊢
      clear hw1 wr
      go_upto_block 2 with fail
      go_cut [5] from 7 to 48 (fun va wc => ∃ t : Nat, va = .int .i64 t ∧ t ≤ k ∧ Hid (Below w1.heap.size w1 wc) ∧ Hid ((∀ i (h : i < Y.length), t ≤ i → ltI (keyV x) (keyV Y[i]) = true) ∧ (t = 0 ∨ ∃ h : t - 1 < Y.length, ltI (keyV x) (keyV Y[t - 1]) = false)))
      case first =>
        go_wp2_with fail
        go_loopw [5] (fun va wz => ∃ t : Nat, va = .int .i64 t ∧ t ≤ k ∧ Hid (Below w1.heap.size w1 wz) ∧ Hid (∀ i (h : i < Y.length), t ≤ i → ltI (keyV x) (keyV Y[i]) = true)) (fun va _ => (intOf va).toNat)
        case atStart => exact ⟨k, rfl, Nat.le_refl _, Below.refl _ _, fun i h hi => by have := HY.out; omega⟩
        case round =>
          obtain ⟨t, rfl, htk, HB, HT⟩ := hrel
          by_cases ht0 : t = 0
          · subst ht0
            go_upto_region 6 with fail
            refine wp_region_quiet_below (by assumption) (by kernel_rfl) ?_
            repeat (go_big_quiet_step (fail))
            refine wpQuiet_nil ?_
            intro _ hw'
            obtain ⟨⟨nq, osq⟩, hw''⟩ := hw'
            subst hw''
            obtain ⟨HV⟩ : Nonempty (Hid (Below w1.heap.size w1 (Go.Sort.grow (redrawn wr nq) osq))) := ⟨HB.out.trans ((below_regrown wr nq osq).mono HB.out.size)⟩
            dsimp only
            generalize Go.Sort.grow (redrawn wr nq) osq = wv at HV ⊢
            go_wp2_with fail
            go_meet
            case rel => exact ⟨0, rfl, Nat.zero_le _, HV, HT.out, .inl rfl⟩
          · obtain ⟨s, rfl⟩ : ∃ s, t = s + 1 := ⟨t - 1, by omega⟩
            have hsY : s < Y.length := by rw [HY.out]; omega
            obtain ⟨y, hy⟩ : ∃ y, Hid (Y[s] = y) := ⟨_, show _ = _ from rfl⟩
            obtain ⟨g, og, rfl, hyc⟩ := HXX.out.2.1 s hsY
            rw [show Y[s] = y from hy.out] at hyc
            have hcon := fun (d : Nat) (os : Array Obj) => rOrder_rv x y (Go.Sort.grow (redrawn wr d) os) ((HXX.out.2.2.1.below HB.out).below (below_regrown _ _ _)) (by rw [← hy.out]; exact ((HXX.out.2.2.2 _ (List.getElem_mem hsY)).below HB.out).below (below_regrown _ _ _))
            obtain ⟨HG⟩ : Nonempty (Hid (ltI (keyR x.r) (keyR y.r) = true → ∀ i (h : i < Y.length), s ≤ i → ltI (keyV x) (keyV Y[i]) = true)) := ⟨fun hlt i h hsi => by
              by_cases e : s = i
              · subst e; rw [show Y[s] = y from hy.out]; exact hlt
              · exact HT.out i h (by omega)⟩
            obtain ⟨HF⟩ : Nonempty (Hid (ltI (keyR x.r) (keyR y.r) = false → ∃ h : s + 1 - 1 < Y.length, ltI (keyV x) (keyV Y[s + 1 - 1]) = false)) := ⟨fun hlt => ⟨hsY, by
              have : Y[s + 1 - 1] = y := hy.out
              rw [this]; exact hlt⟩⟩
            obtain ⟨tt, htt⟩ : ∃ t, ordR x.r y.r = t := ⟨_, rfl⟩
            have htl : decide (tt < 0) = ltI (keyR x.r) (keyR y.r) := by rw [← htt]; exact ordR_lt _ _
            simp only [htt] at hcon
            have e1 : ((k : Int)).toNat = k := by omega
            have e2 : (0 : Int) ≤ (k : Int) := by omega
            have e3 : IntKind.i64.wrap ((k : Int)) = (k : Int) := by rw [IntKind.wrap_i64]; omega
            have e4 : ((s : Int)).toNat = s := by omega
            have e5 : (0 : Int) ≤ (s : Int) := by omega
            have e6 : IntKind.i64.wrap ((s : Int)) = (s : Int) := by rw [IntKind.wrap_i64]; omega
            have e7 : (s : Int) < (k : Int) := by omega
            have e8 : (s : Int) + 1 - 1 = (s : Int) := by omega
            have e9 : (0 : Int) < (s : Int) + 1 := by omega
            obtain ⟨k0, k1, k2, k3, k4, k5, k6, k7⟩ := rvCell8 HXX.out.1
            obtain ⟨y0, y1, y2, y3, y4, y5, y6, y7⟩ := rvCell8 hyc
            have gk0 := cell_regrown (cell_kept HB.out k0)
            have gk1 := cell_regrown (cell_kept HB.out k1)
            have gk2 := cell_regrown (cell_kept HB.out k2)
            have gk3 := cell_regrown (cell_kept HB.out k3)
            have gk4 := cell_regrown (cell_kept HB.out k4)
            have gk5 := cell_regrown (cell_kept HB.out k5)
            have gk6 := cell_regrown (cell_kept HB.out k6)
            have gk7 := cell_regrown (cell_kept HB.out k7)
            have gy0 := cell_regrown (cell_kept HB.out y0)
            have gy1 := cell_regrown (cell_kept HB.out y1)
            have gy2 := cell_regrown (cell_kept HB.out y2)
            have gy3 := cell_regrown (cell_kept HB.out y3)
            have gy4 := cell_regrown (cell_kept HB.out y4)
            have gy5 := cell_regrown (cell_kept HB.out y5)
            have gy6 := cell_regrown (cell_kept HB.out y6)
            have gy7 := cell_regrown (cell_kept HB.out y7)
            clear k0 k1 k2 k3 k4 k5 k6 k7 y0 y1 y2 y3 y4 y5 y6 y7 hyc htt ht0
            unfold roV enc8 at hcon
            go_upto_region 6 with fail
            cases hv : ltI (keyR x.r) (keyR y.r) with
            | true =>
              rw [hv] at htl
              have htl' : tt < 0 := of_decide_eq_true htl
              obtain ⟨HV1⟩ : Nonempty (Hid _) := ⟨HG.out hv⟩
              clear hv HG HF
              refine wp_region_quiet_below (by assumption) (by kernel_rfl) ?_
              repeat (go_big_quiet_step (first | (go_at_call 14; refine Calls.regrown_of (hcon _ _))))
              refine wpQuiet_nil ?_
              intro _ hw'
              obtain ⟨⟨nq, osq⟩, hw''⟩ := hw'
              subst hw''
              obtain ⟨HV⟩ : Nonempty (Hid (Below w1.heap.size w1 (Go.Sort.grow (redrawn wr nq) osq))) := ⟨HB.out.trans ((below_regrown wr nq osq).mono HB.out.size)⟩
              dsimp only
              clear gk0 gk1 gk2 gk3 gk4 gk5 gk6 gk7 gy0 gy1 gy2 gy3 gy4 gy5 gy6 gy7 hcon
              generalize Go.Sort.grow (redrawn wr nq) osq = wv at HV ⊢
              go_wp2_with fail
              go_roundw
              case rel => exact ⟨s, by go_num, by omega, HV, HV1.out⟩
              case measure => simp [intOf]
            | false =>
              rw [hv] at htl
              have htl' : ¬ tt < 0 := of_decide_eq_false htl
              obtain ⟨HV1⟩ : Nonempty (Hid _) := ⟨HF.out hv⟩
              clear hv HG HF
              refine wp_region_quiet_below (by assumption) (by kernel_rfl) ?_
              repeat (go_big_quiet_step (first | (go_at_call 14; refine Calls.regrown_of (hcon _ _))))
              refine wpQuiet_nil ?_
              intro _ hw'
              obtain ⟨⟨nq, osq⟩, hw''⟩ := hw'
              subst hw''
              obtain ⟨HV⟩ : Nonempty (Hid (Below w1.heap.size w1 (Go.Sort.grow (redrawn wr nq) osq))) := ⟨HB.out.trans ((below_regrown wr nq osq).mono HB.out.size)⟩
              dsimp only
              clear gk0 gk1 gk2 gk3 gk4 gk5 gk6 gk7 gy0 gy1 gy2 gy3 gy4 gy5 gy6 gy7 hcon
              generalize Go.Sort.grow (redrawn wr nq) osq = wv at HV ⊢
              go_wp2_with fail
              go_meet
              case rel => exact ⟨s + 1, by go_num, htk, HV, HT.out, .inr HV1.out⟩
      obtain ⟨t, rfl, htk, HB, HT⟩ := hcut
      obtain ⟨HA⟩ : Nonempty (Hid (RvRow wc q Y ∧ RvCell wc b (o + k * 8) x ∧ (Y.take t).length = t ∧ (Y.drop t).length = k - t)) := ⟨⟨HXX.out.2.1.below HB.out, HXX.out.1.below HB.out, by rw [List.length_take, HY.out]; omega, by rw [List.length_drop, HY.out]⟩⟩
      obtain ⟨HE⟩ : Nonempty (Hid ((Y.take t ++ x :: Y.drop t).length = k + 1 ∧ (Y.take t ++ x :: Y.drop t).Perm (X.take (k + 1)) ∧ SortedK keyV (Y.take t ++ x :: Y.drop t) ∧ w.heap.size ≤ wc.heap.size)) := ⟨by
        refine ⟨?_, ?_, ?_, Nat.le_trans HW.out.size HB.out.size⟩
        · have := HA.out.2.2.1; have := HA.out.2.2.2; simp only [List.length_append, List.length_cons]; omega
        · rw [List.take_succ_eq_append_getElem hkX, show X[k] = x from hx.out]
          exact (perm_insert Y x t).trans ((List.Perm.cons x HO.out.2.1).trans (List.perm_append_comm (l₁ := [x])))
        · refine sortedK_insert keyV HO.out.2.2 x t (fun i h hti => ltI_asymm (HT.out.1 i h hti)) fun i h hit => ?_
          rcases HT.out.2 with h0 | ⟨h0, h1⟩
          · omega
          · exact sortedK_down keyV HO.out.2.2 x h0 (by omega) h1⟩
      have e1 : ((k : Int)).toNat = k := by omega
      have e2 : (0 : Int) ≤ (k : Int) := by omega
      have e3 : IntKind.i64.wrap ((k : Int)) = (k : Int) := by rw [IntKind.wrap_i64]; omega
      have e4 : ((t : Int)).toNat = t := by omega
      have e5 : (0 : Int) ≤ (t : Int) := by omega
      have e6 : (t : Int) ≤ (k : Int) := by omega
      have e7 : (t : Int) ≤ (c : Int) := by omega
      have e8 : (k : Int) ≤ (c : Int) := by omega
      clear HX HY HO HT HXX hkX hx
      rcases HNIL.out with ⟨rfl, hY0, hk0, rfl⟩ | ⟨g, rfl⟩
      · subst hY0
        obtain rfl : t = 0 := by omega
        obtain ⟨H1⟩ : Nonempty (Hid (wc.ownsRow wc.heap.size 31 8 (.slice none 0 0) ([] : List RV).length (flat8 []) ∧ Below wc.heap.size wc wc)) := ⟨⟨World.ownsRow_nil _ _ _ _, Below.refl _ _⟩⟩
        obtain ⟨k0, k1, k2, k3, k4, k5, k6, k7⟩ := rvCell8 HA.out.2.1
        obtain ⟨HK⟩ : Nonempty (Hid (k = 0)) := ⟨hk0⟩
        clear HNIL e4 e5 e6 e7 hk0 htk
        go_wp2_with (at_builtin; refine wp_addRv rfl _ _ 22 rfl wc.heap.size 31 i0 Try.underlying22 hi hz0 hz1 hz2 (.slice none 0 0) (([] : List RV)) rfl (own_below H1.out.1 (below_alloc _ _)) (some ⟨wc.heap.size, 0, none⟩) [x] 1 1 rfl rfl (.inr ⟨_, rfl⟩) (rv_alloc wc x) (([] : List RV) ++ [x]) (show _ = _ from rfl) (by have := HA.out.2.2.1; simp; try omega) (Nat.le_trans H1.out.2.size (by simp)) ?_)
        intro v2 w3 hown2 hb2
        obtain ⟨H2⟩ : Nonempty (Hid (w3.ownsRow wc.heap.size 31 8 v2 (([] : List RV) ++ [x]).length (flat8 (([] : List RV) ++ [x])) ∧ Below wc.heap.size wc w3)) := ⟨⟨by first | exact hown2 | (rw [List.length_append, List.length_take]; exact hown2), (H1.out.2.alloc H1.out.2.size _).trans hb2⟩⟩
        clear hown2 hb2 k0 k1 k2 k3 k4 k5 k6 k7
        go_wp2_with (at_builtin; refine wp_addRv rfl _ _ 22 rfl wc.heap.size 31 i0 Try.underlying22 hi hz0 hz1 hz2 v2 (([] : List RV) ++ [x]) rfl H2.out.1 none (([] : List RV)) 0 0 rfl rfl (.inl ⟨rfl, rfl, rfl⟩) (rvRow_nil _ _) (([] : List RV).take 0 ++ x :: ([] : List RV).drop 0) (show _ = _ by simp) (by have := HA.out.2.2.1; have := HA.out.2.2.2; simp at *; try omega) H2.out.2.size ?_)
        intro v3 w4 hown3 hb3
        obtain ⟨H3⟩ : Nonempty (Hid (w4.ownsRow wc.heap.size 31 8 v3 (([] : List RV).take 0 ++ x :: ([] : List RV).drop 0).length (flat8 (([] : List RV).take 0 ++ x :: ([] : List RV).drop 0)) ∧ Below wc.heap.size wc w4)) := ⟨⟨by first | exact hown3 | simpa using hown3, H2.out.2.trans hb3⟩⟩
        clear hown3 hb3
        go_wp2_with fail
        go_roundw
        case rel => exact ⟨k + 1, ([] : List RV).take 0 ++ x :: ([] : List RV).drop 0, by go_num, by omega, HE.out.1, ⟨own_mono H3.out.1 HE.out.2.2.2, HE.out.2.1, HE.out.2.2.1⟩, HW.out.trans ((HB.out.trans (H3.out.2.mono HB.out.size)).mono HW.out.size)⟩
        case measure => simp [intOf]; omega
      · clear HNIL
        go_wp2_with (at_builtin; refine wp_addRv rfl _ _ 22 rfl wc.heap.size 31 i0 Try.underlying22 hi hz0 hz1 hz2 _ [] rfl (World.ownsRow_nil _ _ _ _) (some ⟨g, 0, none⟩) (Y.take t) t c rfl HA.out.2.2.1 (.inr ⟨_, rfl⟩) (HA.out.1.take t) (Y.take t) (show _ = _ from rfl) (by have := HA.out.2.2.1; simp; omega) (Nat.le_refl _) ?_)
        intro v1 w2 hown1 hb1
        obtain ⟨H1⟩ : Nonempty (Hid (w2.ownsRow wc.heap.size 31 8 v1 (Y.take t).length (flat8 (Y.take t)) ∧ Below wc.heap.size wc w2)) := ⟨⟨by first | exact hown1 | (rw [List.length_take]; exact hown1), hb1⟩⟩
        obtain ⟨k0, k1, k2, k3, k4, k5, k6, k7⟩ := rvCell8 (HA.out.2.1.below hb1)
        clear hown1 hb1
        go_wp2_with (at_builtin; refine wp_addRv rfl _ _ 22 rfl wc.heap.size 31 i0 Try.underlying22 hi hz0 hz1 hz2 v1 (Y.take t) rfl (own_below H1.out.1 (below_alloc _ _)) (some ⟨w2.heap.size, 0, none⟩) [x] 1 1 rfl rfl (.inr ⟨_, rfl⟩) (rv_alloc w2 x) (Y.take t ++ [x]) (show _ = _ from rfl) (by have := HA.out.2.2.1; simp; try omega) (Nat.le_trans H1.out.2.size (by simp)) ?_)
        intro v2 w3 hown2 hb2
        obtain ⟨H2⟩ : Nonempty (Hid (w3.ownsRow wc.heap.size 31 8 v2 (Y.take t ++ [x]).length (flat8 (Y.take t ++ [x])) ∧ Below wc.heap.size wc w3)) := ⟨⟨by first | exact hown2 | (rw [List.length_append, List.length_take]; exact hown2), (H1.out.2.alloc H1.out.2.size _).trans hb2⟩⟩
        clear hown2 hb2 k0 k1 k2 k3 k4 k5 k6 k7
        by_cases hct : t = c
        · obtain rfl : k = t := by omega
          subst hct
          obtain ⟨HD⟩ : Nonempty (Hid (Y.drop k = [])) := ⟨List.eq_nil_of_length_eq_zero (by rw [HA.out.2.2.2]; omega)⟩
          clear e1 e2 e4 e5 e6 e7 e8
          go_wp2_with (at_builtin; refine wp_addRv rfl _ _ 22 rfl wc.heap.size 31 i0 Try.underlying22 hi hz0 hz1 hz2 v2 (Y.take k ++ [x]) rfl H2.out.1 _ (([] : List RV)) 0 _ rfl rfl (.inr ⟨_, rfl⟩) (rvRow_nil _ _) (Y.take k ++ x :: Y.drop k) (show _ = _ by rw [HD.out]; simp) (by have := HA.out.2.2.1; have := HA.out.2.2.2; simp at *; try omega) H2.out.2.size ?_)
          intro v3 w4 hown3 hb3
          obtain ⟨H3⟩ : Nonempty (Hid (w4.ownsRow wc.heap.size 31 8 v3 (Y.take k ++ x :: Y.drop k).length (flat8 (Y.take k ++ x :: Y.drop k)) ∧ Below wc.heap.size wc w4)) := ⟨⟨by first | exact hown3 | simpa using hown3, H2.out.2.trans hb3⟩⟩
          clear hown3 hb3
          go_wp2_with fail
          go_roundw
          case rel => exact ⟨k + 1, Y.take k ++ x :: Y.drop k, by go_num, by omega, HE.out.1, ⟨own_mono H3.out.1 HE.out.2.2.2, HE.out.2.1, HE.out.2.2.1⟩, HW.out.trans ((HB.out.trans (H3.out.2.mono HB.out.size)).mono HW.out.size)⟩
          case measure => simp [intOf]; omega
        · have hct' : (t : Int) < (c : Int) := by omega
          go_wp2_with (at_builtin; refine wp_addRv rfl _ _ 22 rfl wc.heap.size 31 i0 Try.underlying22 hi hz0 hz1 hz2 v2 (Y.take t ++ [x]) rfl H2.out.1 (some ⟨g, t * 8, none⟩) (Y.drop t) (k - t) (c - t) rfl HA.out.2.2.2 (.inr ⟨_, rfl⟩) (by have := (HA.out.1.below H2.out.2).drop t; rwa [Nat.zero_add] at this) (Y.take t ++ x :: Y.drop t) (show _ = _ by simp) (by have := HA.out.2.2.1; have := HA.out.2.2.2; simp at *; try omega) H2.out.2.size ?_)
          intro v3 w4 hown3 hb3
          obtain ⟨H3⟩ : Nonempty (Hid (w4.ownsRow wc.heap.size 31 8 v3 (Y.take t ++ x :: Y.drop t).length (flat8 (Y.take t ++ x :: Y.drop t)) ∧ Below wc.heap.size wc w4)) := ⟨⟨by first | exact hown3 | simpa using hown3, H2.out.2.trans hb3⟩⟩
          clear hown3 hb3
          go_wp2_with fail
          go_roundw
          case rel => exact ⟨k + 1, Y.take t ++ x :: Y.drop t, by go_num, by omega, HE.out.1, ⟨own_mono H3.out.1 HE.out.2.2.2, HE.out.2.1, HE.out.2.2.1⟩, HW.out.trans ((HB.out.trans (H3.out.2.mono HB.out.size)).mono HW.out.size)⟩
          case measure => simp [intOf]; omega
    · have hltz : ¬ (k : Int) < (n : Int) := by omega
      go_wp2_with fail
      go_ret
      refine ⟨⟨_, rfl, Y, HO.out.1, ?_, HO.out.2.2⟩, HW.out⟩
      have := HO.out.2.1
      rwa [List.take_of_length_le (by rw [HL.out]; omega)] at this
end Go.Proofs.Ytkcacdlgmapjjaa
