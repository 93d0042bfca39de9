/-
  The law's OwnRoutes: one's own copy of routes.
-/
import Derived.Test.YtkcacdlgmapjjaaRouteArgs
namespace Go.Proofs.Ytkcacdlgmapjjaa
open Go.RowKit

set_option linter.unusedVariables false in
set_option linter.unusedSimpArgs false in
set_option maxRecDepth 100000 in
set_option maxHeartbeats 8000000 in
theorem ownRoutes_any (L : List Ro) (q : Option Addr) (d : Nat) (w : World) (h : RoutesArg w q L) (h2 : L.length ≤ 1000) (hm : Mod L) :
    Calls Try.prog 13 #[.slice q L.length d] w fun r w' => (∃ v, r = .returned v ∧ OwnRo w' w.heap.size v L (fun b => b < w.heap.size)) ∧ Below w.heap.size w w' := by
  obtain ⟨i8, hi8, hy0, hy1, hy2⟩ := pInfo_parts infoRoute
  obtain ⟨N, hN⟩ : ∃ N, w.heap.size = N := ⟨_, rfl⟩
  rw [hN]
  obtain ⟨HN⟩ : Nonempty (Hid (w.heap.size = N)) := ⟨hN⟩
  obtain ⟨HR⟩ : Nonempty (Hid (∀ w', Below N w w' → RoutesArg w' q L)) := ⟨fun w' hb => h.below (by rw [hN]; exact hb)⟩
  obtain ⟨HM⟩ : Nonempty (Hid (Mod L)) := ⟨hm⟩
  obtain ⟨HS⟩ : Nonempty (Hid (Below N w w ∧ OwnRo w N (.slice none 0 0) [] (fun b => b < N))) := ⟨Below.refl _ _, ownRo_nil _ _ _⟩
  clear h hm hN
  go_enter Try.func13, Try.ntmps13
  go_wp2_with fail
  go_loopw [3, 4] (fun u i wr => ∃ k : Nat, i = .int .i64 k ∧ k ≤ L.length ∧ Hid (OwnRo wr N u (L.take k) (fun b => b < N)) ∧ Hid (Below N w wr)) (fun _ i _ => L.length - (intOf i).toNat)
  case atStart => exact ⟨0, rfl, Nat.zero_le _, HS.out.2, HS.out.1⟩
  case round =>
    obtain ⟨k, rfl, hk, HO, HW⟩ := hrel
    by_cases hlt : k < L.length
    · obtain ⟨b, o, rfl, p1, c1, p2, c2, a0, a1, a2, a3, a4, a5, a6, a7, j1, j2, k1, k2⟩ := HR.out wr HW.out k hlt
      have m1 := HM.out L[k] (List.getElem_mem hlt)
      have q3 : (k : Int) < L.length := by omega
      obtain ⟨r, hr⟩ : ∃ r, Hid (L[k] = r) := ⟨_, show _ = _ from rfl⟩
      rw [show L[k] = r from hr.out] at a0 a1 a2 a3 a4 a5 a6 a7 j1 j2 k1 k2 m1
      obtain ⟨O', HO'⟩ : ∃ O', Hid (L.take k ++ [r] = O') := ⟨_, show _ = _ from rfl⟩
      have HOX : Hid (L.take (k + 1) = O') := by
        show _ = _
        rw [← HO'.out, ← hr.out, List.take_succ_eq_append_getElem hlt]
      have hkl : (L.take k).length ≤ 1000000 := by rw [List.length_take]; omega
      obtain ⟨b9, hb9⟩ : ∃ b, Hid (wr.heap.size = b) := ⟨_, show _ = _ from rfl⟩
      obtain ⟨W9, hW9⟩ : ∃ b, Hid (wr.alloc (.cells #[.int .i64 r.dst.1, .int .i64 r.dst.2, .slice p1 r.att.path.length c1, .int .i64 r.att.pref, .int .i64 r.att.med, .int .i64 r.att.org, .slice p2 r.att.tags.length c2, .int .i64 r.frm] 31) = b) := ⟨_, show _ = _ from rfl⟩
      obtain ⟨HB9⟩ : Nonempty (Hid (Below wr.heap.size wr W9 ∧ W9.heap[b9]? = some (.cells #[.int .i64 r.dst.1, .int .i64 r.dst.2, .slice p1 r.att.path.length c1, .int .i64 r.att.pref, .int .i64 r.att.med, .int .i64 r.att.org, .slice p2 r.att.tags.length c2, .int .i64 r.frm] 31 (0, 0)) ∧ N ≤ b9 ∧ W9.heap.size = b9 + 1)) := ⟨by
        rw [← hW9.out, ← hb9.out]
        refine ⟨below_alloc _ _, Go.heap_alloc_new wr _, ?_, by simp⟩
        have := HW.out.size
        have := HN.out
        omega⟩
      obtain ⟨HC⟩ : Nonempty (Hid (Calls Try.prog 20 #[.agg #[.slice p1 r.att.path.length c1, .int .i64 r.att.pref, .int .i64 r.att.med, .int .i64 r.att.org, .slice p2 r.att.tags.length c2]] W9 fun e w'' => (∃ v', e = .returned v' ∧ AttrF w'' v' r.att W9.heap.size) ∧ Below W9.heap.size W9 w'')) := ⟨ownAttr_w _ r.att W9 ⟨p1, c1, p2, c2, rfl, j1.below HB9.out.1, j2.below HB9.out.1, k1, k2⟩ m1.1 m1.2⟩
      have z := heap_cells8 HB9.out.2.1
      obtain ⟨z0, z1, z2, z3, z4, z5, z6, z7, -⟩ := z
      clear j1 j2 k1 k2 m1
      go_upto_region 6 with fail
      rw [show wr.alloc (.cells #[.int .i64 r.dst.1, .int .i64 r.dst.2, .slice p1 r.att.path.length c1, .int .i64 r.att.pref, .int .i64 r.att.med, .int .i64 r.att.org, .slice p2 r.att.tags.length c2, .int .i64 r.frm] 31) = W9 from hW9.out, show wr.heap.size = b9 from hb9.out]
      clear a0 a1 a2 a3 a4 a5 a6 a7
      go_wp2_with fail
      refine HC.out.mono ?_
      rintro e w2 ⟨⟨v2, rfl, hv2⟩, hb2⟩
      obtain ⟨q1, d1, q2, d2, rfl, j1, j2, -, -, l1, l2⟩ := hv2
      obtain ⟨HB2⟩ : Nonempty (Hid (Below W9.heap.size W9 w2)) := ⟨hb2⟩
      have hh2 : w2.heap[b9]? = some (.cells #[.int .i64 r.dst.1, .int .i64 r.dst.2, .slice p1 r.att.path.length c1, .int .i64 r.att.pref, .int .i64 r.att.med, .int .i64 r.att.org, .slice p2 r.att.tags.length c2, .int .i64 r.frm] 31 (0, 0)) := by rw [hb2.block b9 (by have := HB9.out.2.2.2; omega)]; exact HB9.out.2.1
      obtain ⟨y0, y1, y2, y3, y4, y5, y6, y7, yf⟩ := heap_cells8 hh2
      have yf2 := yf 2
      have yf3 := yf 3
      have yf4 := yf 4
      have yf5 := yf 5
      have yf6 := yf 6
      obtain ⟨W3, hW3⟩ : ∃ b, Hid (((((w2.setCell ⟨b9, 2, none⟩ (.slice q1 r.att.path.length d1)).setCell ⟨b9, 3, none⟩ (.int .i64 r.att.pref)).setCell ⟨b9, 4, none⟩ (.int .i64 r.att.med)).setCell ⟨b9, 5, none⟩ (.int .i64 r.att.org)).setCell ⟨b9, 6, none⟩ (.slice q2 r.att.tags.length d2) = b) := ⟨_, show _ = _ from rfl⟩
      have hh3 := set5of8 hh2 (.slice q1 r.att.path.length d1) (.int .i64 r.att.pref) (.int .i64 r.att.med) (.int .i64 r.att.org) (.slice q2 r.att.tags.length d2)
      rw [show ((((w2.setCell ⟨b9, 2, none⟩ (.slice q1 r.att.path.length d1)).setCell ⟨b9, 3, none⟩ (.int .i64 r.att.pref)).setCell ⟨b9, 4, none⟩ (.int .i64 r.att.med)).setCell ⟨b9, 5, none⟩ (.int .i64 r.att.org)).setCell ⟨b9, 6, none⟩ (.slice q2 r.att.tags.length d2) = W3 from hW3.out] at hh3
      obtain ⟨t0, t1, t2, t3, t4, t5, t6, t7, -⟩ := heap_cells8 hh3
      obtain ⟨nu, xu, huo⟩ := HO.out.own
      have hub : ∀ b, u3.ownBlock = some b → N ≤ b ∧ b < b9 := fun b hb => by have := huo.lt b hb; rw [show wr.heap.size = b9 from hb9.out] at this; exact this
      obtain ⟨HO3⟩ : Nonempty (Hid (OwnRo W3 N u3 (L.take k) (fun b => b < N) ∧ Below N w W3 ∧ N ≤ W3.heap.size)) := ⟨by
        have g1 : OwnRo wr N u3 (L.take k) (fun b => b < N ∨ b = b9) := HO.out.mono fun b hb hf => by
          rcases hf with h | h
          · exact h
          · rw [show wr.heap.size = b9 from hb9.out] at hb; omega
        have g2 := (g1.below HB9.out.1).below HB2.out
        have hn : u3.ownBlock ≠ some b9 := fun e => by have := hub b9 e; omega
        have g3 := ownRo_set8 (ownRo_set8 (ownRo_set8 (ownRo_set8 (ownRo_set8 g2 hn (fun b hb => (hub b hb).1) 2 (.slice q1 r.att.path.length d1)) hn (fun b hb => (hub b hb).1) 3 (.int .i64 r.att.pref)) hn (fun b hb => (hub b hb).1) 4 (.int .i64 r.att.med)) hn (fun b hb => (hub b hb).1) 5 (.int .i64 r.att.org)) hn (fun b hb => (hub b hb).1) 6 (.slice q2 r.att.tags.length d2)
        rw [show ((((w2.setCell ⟨b9, 2, none⟩ (.slice q1 r.att.path.length d1)).setCell ⟨b9, 3, none⟩ (.int .i64 r.att.pref)).setCell ⟨b9, 4, none⟩ (.int .i64 r.att.med)).setCell ⟨b9, 5, none⟩ (.int .i64 r.att.org)).setCell ⟨b9, 6, none⟩ (.slice q2 r.att.tags.length d2) = W3 from hW3.out] at g3
        have hB9 := HB9.out.2.2.1
        have hbw : Below N w w2 := (HW.out.trans (HB9.out.1.mono (by rw [show wr.heap.size = b9 from hb9.out]; omega))).trans (HB2.out.mono (by have := HB9.out.2.2.2; omega))
        have hbw3 := ((((hbw.setCell (p := ⟨b9, 2, none⟩) hB9 (.slice q1 r.att.path.length d1)).setCell (p := ⟨b9, 3, none⟩) hB9 (.int .i64 r.att.pref)).setCell (p := ⟨b9, 4, none⟩) hB9 (.int .i64 r.att.med)).setCell (p := ⟨b9, 5, none⟩) hB9 (.int .i64 r.att.org)).setCell (p := ⟨b9, 6, none⟩) hB9 (.slice q2 r.att.tags.length d2)
        rw [show ((((w2.setCell ⟨b9, 2, none⟩ (.slice q1 r.att.path.length d1)).setCell ⟨b9, 3, none⟩ (.int .i64 r.att.pref)).setCell ⟨b9, 4, none⟩ (.int .i64 r.att.med)).setCell ⟨b9, 5, none⟩ (.int .i64 r.att.org)).setCell ⟨b9, 6, none⟩ (.slice q2 r.att.tags.length d2) = W3 from hW3.out] at hbw3
        exact ⟨g3.mono fun b _ h => .inl h, hbw3, by have := hbw3.size; have := HN.out; omega⟩⟩
      obtain ⟨HI3⟩ : Nonempty (Hid (IntsOff W3 q1 r.att.path (fun b => b < N ∨ u3.ownBlock = some b) ∧ IntsOff W3 q2 r.att.tags (fun b => b < N ∨ u3.ownBlock = some b))) := ⟨by
        have hno : ∀ b, W9.heap.size ≤ b → ¬ (b < N ∨ u3.ownBlock = some b) := fun b hb hf => by
          have := HB9.out.2.2
          rcases hf with h | h
          · omega
          · have := hub b h; omega
        have hset : ∀ (q : Option Addr) (X : List Int), Ints w2 q X → (∀ b o, q = some ⟨b, o, none⟩ → W9.heap.size ≤ b) → Ints W3 q X := fun q X hq hl => by
          have hne : ∀ b o, q = some ⟨b, o, none⟩ → b9 < b := fun b o e => by have := hl b o e; have := HB9.out.2.2.2; omega
          rw [← hW3.out]
          exact ((((hq.set hne 2 _).set hne 3 _).set hne 4 _).set hne 5 _).set hne 6 _
        exact ⟨⟨hset q1 _ j1 l1, fun b o e _ => hno b (l1 b o e)⟩, ⟨hset q2 _ j2 l2, fun b o e _ => hno b (l2 b o e)⟩⟩⟩
      clear hb2 hh2 hh3 j1 j2 l1 l2 yf huo hub
      go_upto_region 7 with fail
      rw [show ((((w2.setCell ⟨b9, 2, none⟩ (.slice q1 r.att.path.length d1)).setCell ⟨b9, 3, none⟩ (.int .i64 r.att.pref)).setCell ⟨b9, 4, none⟩ (.int .i64 r.att.med)).setCell ⟨b9, 5, none⟩ (.int .i64 r.att.org)).setCell ⟨b9, 6, none⟩ (.slice q2 r.att.tags.length d2) = W3 from hW3.out]
      clear y0 y1 y2 y3 y4 y5 y6 y7 yf2 yf3 yf4 yf5 yf6 z0 z1 z2 z3 z4 z5 z6 z7
      go_wp2_with (at_builtin; refine wp_push8 rfl _ _ 22 rfl N i8 Try.underlying22 hi8 hy0 hy1 hy2 (fun b => b < N) u3 (L.take k) rfl HO3.out.1 ⟨r, q1, d1, q2, d2⟩ HI3.out #[.int .i64 r.dst.1, .int .i64 r.dst.2, .slice q1 r.att.path.length d1, .int .i64 r.att.pref, .int .i64 r.att.med, .int .i64 r.att.org, .slice q2 r.att.tags.length d2, .int .i64 r.frm] rfl _ rfl rfl O' HO' hkl HO3.out.2.2 ?_)
      intro v' w6 hown6 hb6 _ _ _
      obtain ⟨HB6⟩ : Nonempty (Hid (Below N w w6)) := ⟨HO3.out.2.1.trans hb6⟩
      obtain ⟨HO6⟩ : Nonempty (Hid (OwnRo w6 N v' (L.take (k + 1)) (fun b => b < N))) := ⟨by rw [HOX.out]; exact hown6⟩
      clear hown6 hb6
      go_wp2_with fail
      go_roundw
      case rel => first | exact ⟨k + 1, by go_num, by omega, HO6, HB6⟩ | ((repeat apply Exists.intro); exact ⟨⟨k + 1, by go_num, by omega, HO6, HB6⟩, rfl⟩)
      case measure => simp [intOf]; omega
    · obtain rfl : k = L.length := by omega
      go_wp2_with fail
      go_ret
      refine ⟨⟨_, rfl, ?_⟩, HW.out⟩
      have := HO.out
      rwa [List.take_length] at this
end Go.Proofs.Ytkcacdlgmapjjaa
