/-
  Package set's joined: what it returns: spans that rise, put together.
-/
import Derived.Test.YthehpnhjfnenoaaDoorSet1
import Derived.BigRegion
namespace Go.Proofs.YthehpnhjfnenoaaDoor
open Go.RowKit

set_option linter.unusedVariables false in
set_option maxRecDepth 100000 in
set_option maxHeartbeats 4000000 in
theorem joined_any (s : List (Int × Int)) (p : Option Addr) (cap : Nat) (w : World) (hs : Pairs w p s) (hl : s.length ≤ 1099511627776) :
    Calls Tryd.prog 81 #[.slice p s.length cap] w fun e w' => (∃ v, e = .returned v ∧ w'.ownsRow w.heap.size 93 2 v (joinS s).length (flat2 (joinS s))) ∧ Below w.heap.size w w' := by
  obtain ⟨i0, hi, hz0, hz1, hz2⟩ := info_parts infoSpan
  obtain ⟨B, hB⟩ : ∃ B, Hid (w.heap.size = B) := ⟨_, show _ = _ from rfl⟩
  rw [show w.heap.size = B from hB.out]
  have HS : Hid (Pairs w p s) := hs
  clear hs
  go_enter Tryd.func81, Tryd.ntmps81
  go_wp2
  go_loopw [3, 9] (fun v i wr => ∃ (k : Nat) (O : List (Int × Int)), i = .int .i64 k ∧ Hid (JoinAt s k O) ∧ wr.ownsRow B 93 2 v O.length (flat2 O) ∧ Below B w wr) (fun _ i _ => s.length - (intOf i).toNat)
  case atStart => exact ⟨0, [], rfl, ⟨by simp, by simp, .inl ⟨rfl, rfl⟩⟩, World.ownsRow_nil _ _ _ _, Below.refl _ _⟩
  case round =>
    obtain ⟨k, O, rfl, HJ, hown, hnx⟩ := hrel
    have hBw : B ≤ wr.heap.size := by rw [← hB.out]; exact hnx.size
    have hkl : k ≤ s.length := HJ.out.1
    have hOk : O.length ≤ k := HJ.out.2.1
    by_cases hlt : k < s.length
    · obtain ⟨b, o, rfl, c0, c1⟩ := HS.out k hlt
      have c0' : wr.cell? ⟨b, o + k * 2, none⟩ = some (.int .i64 s[k].1) := by rw [hnx.cell (by rw [← hB.out]; exact cell_lt' c0)]; exact c0
      have c1' : wr.cell? ⟨b, o + k * 2 + 1, none⟩ = some (.int .i64 s[k].2) := by rw [hnx.cell (by rw [← hB.out]; exact cell_lt' c1)]; exact c1
      have hbw : b < wr.heap.size := cell_lt' c0'
      clear c0 c1
      generalize hx0 : s[k].1 = x0 at c0'
      generalize hx1 : s[k].2 = x1 at c1'
      rcases HJ.out.2.2 with ⟨hk0, rfl⟩ | ⟨hk1, D, c, rfl, hJ⟩
      · obtain ⟨HK⟩ : Nonempty (Hid (k = 0)) := ⟨hk0⟩
        obtain ⟨q, cap2, rfl, -, -, -⟩ := own_pairs hown
        clear hk0
        go_wp2
        go_quiet (fail)
        have hown2 : ((wr.alloc (.cells #[.int .i64 x0, .int .i64 x1] 93)).drewN nq).ownsRow B 93 2 (.slice q 0 cap2) ([] : List (Int × Int)).length (flat2 []) := hown.alloc _
        have hbel : Below B w ((wr.alloc (.cells #[.int .i64 x0, .int .i64 x1] 93)).drewN nq) := below_drewN (hnx.alloc hBw _) _
        obtain ⟨O', HO'⟩ : ∃ O', Hid (([] : List (Int × Int)) ++ [(x0, x1)] = O') := ⟨_, show _ = _ from rfl⟩
        go_wp2_with (at_builtin; refine wp_push rfl _ _ 85 rfl B 93 i0 Tryd.underlying85 hi hz0 hz1 hz2 _ [] rfl hown2 x0 x1 _ rfl (by simp) O' HO' (by simp) (by simp; omega) ?_)
        rintro v' w1 hown' hb1 -
        have hb2 := hbel.trans hb1
        clear hown2 hown hbel hb1 hnx c0' c1'
        go_wp2
        go_roundw
        case rel =>
          refine ⟨k + 1, O', by go_num, ?_, hown', hb2⟩
          rw [← HO'.out]
          have := HK.out
          subst this
          rw [← hx0, ← hx1]
          exact joinAt_first hlt
        case measure => simp [intOf]; omega
      · obtain ⟨g, cap2, hv, h1, h2, hBg, hgw, e0, e1, ef⟩ := own_last hown
        subst hv
        have hDk : D.length + 1 ≤ k := by simpa using hOk
        have hw : IntKind.i64.wrap (D.length : Int) = (D.length : Int) := wrapN _ (by omega)
        have hb1 : (D.length : Int) < (D.length : Int) + 1 := by omega
        generalize hc0 : c.1 = y0 at e0
        generalize hc1 : c.2 = y1 at e1
        by_cases hle : x0 ≤ y1
        · have hd : decide (x0 ≤ y1) = true := decide_eq_true hle
          have hd0 : decide ((0 : Int) < (D.length : Int) + 1) = true := decide_eq_true (by omega)
          go_wp2
          go_quiet (fail)
          go_wp2
          go_region
          have hown2 : ((wr.alloc (.cells #[.int .i64 x0, .int .i64 x1] 93)).drewN (nq + 1)).ownsRow B 93 2 (.slice (some ⟨g, 0, none⟩) (D.length + 1) cap2) (D ++ [c]).length (flat2 (D ++ [c])) := hown.alloc _
          have hbel : Below B w ((wr.alloc (.cells #[.int .i64 x0, .int .i64 x1] 93)).drewN (nq + 1)) := below_drewN (hnx.alloc hBw _) _
          have hmax : (if y1 < x1 then x1 else y1) = max y1 x1 := by
            rcases Int.lt_or_le y1 x1 with h | h
            · rw [if_pos h]; omega
            · rw [if_neg (by omega)]; omega
          rw [hmax]
          obtain ⟨O', HO'⟩ : ∃ O', Hid (D ++ [(c.1, max y1 x1)] = O') := ⟨_, show _ = _ from rfl⟩
          obtain ⟨HW⟩ : Nonempty (Hid ((((wr.alloc (.cells #[.int .i64 x0, .int .i64 x1] 93)).drewN (nq + 1)).setCell ⟨g, D.length * 2 + 1, none⟩ (.int .i64 (max y1 x1))).ownsRow B 93 2 (.slice (some ⟨g, 0, none⟩) (D.length + 1) cap2) O'.length (flat2 O') ∧ Below B w (((wr.alloc (.cells #[.int .i64 x0, .int .i64 x1] 93)).drewN (nq + 1)).setCell ⟨g, D.length * 2 + 1, none⟩ (.int .i64 (max y1 x1))))) := by
            rw [← HO'.out]
            exact ⟨own_store hown2 _, hbel.setCell hBg _⟩
          clear hown2 hown hbel hnx c0' c1' e0 e1 ef
          generalize (((wr.alloc (.cells #[.int .i64 x0, .int .i64 x1] 93)).drewN (nq + 1)).setCell ⟨g, D.length * 2 + 1, none⟩ (.int .i64 (max y1 x1))) = w1 at HW ⊢
          go_wp2
          go_roundw
          case rel =>
            refine ⟨k + 1, O', by go_num, ?_, HW.out.1, HW.out.2⟩
            rw [← HO'.out, ← hc1, ← hx1]
            exact joinAt_in hk1 hlt hOk hJ (by rw [hx0, hc1]; exact hle)
          case measure => simp [intOf]; omega
        · have hd : decide (x0 ≤ y1) = false := decide_eq_false hle
          have hd0 : decide ((0 : Int) < (D.length : Int) + 1) = true := decide_eq_true (by omega)
          go_wp2
          go_quiet (fail)
          have hown2 : ((wr.alloc (.cells #[.int .i64 x0, .int .i64 x1] 93)).drewN nq).ownsRow B 93 2 (.slice (some ⟨g, 0, none⟩) (D.length + 1) cap2) (D ++ [c]).length (flat2 (D ++ [c])) := hown.alloc _
          have hbel : Below B w ((wr.alloc (.cells #[.int .i64 x0, .int .i64 x1] 93)).drewN nq) := below_drewN (hnx.alloc hBw _) _
          obtain ⟨O', HO'⟩ : ∃ O', Hid ((D ++ [c]) ++ [(x0, x1)] = O') := ⟨_, show _ = _ from rfl⟩
          go_wp2_with (at_builtin; refine wp_push rfl _ _ 85 rfl B 93 i0 Tryd.underlying85 hi hz0 hz1 hz2 _ (D ++ [c]) rfl hown2 x0 x1 _ rfl (by simp) O' HO' (by omega) (by simp; omega) ?_)
          rintro v' w1 hown' hb1 -
          have hb2 := hbel.trans hb1
          clear hown2 hown hbel hb1 hnx c0' c1' e0 e1 ef
          go_wp2
          go_roundw
          case rel =>
            refine ⟨k + 1, O', by go_num, ?_, hown', hb2⟩
            rw [← HO'.out, ← hx0, ← hx1]
            exact joinAt_out hk1 hlt hOk hJ (by rw [hx0, hc1]; omega)
          case measure => simp [intOf]; omega
    · obtain ⟨q, cap2, rfl, -, -, -⟩ := own_pairs hown
      have hO := joinAt_over HJ.out hlt
      subst hO
      go_wp2
      go_ret
      exact ⟨⟨_, rfl, hown⟩, hnx⟩
end Go.Proofs.YthehpnhjfnenoaaDoor
