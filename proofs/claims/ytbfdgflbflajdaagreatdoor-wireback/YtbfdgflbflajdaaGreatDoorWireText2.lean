/-
  Package wire's Text: what it returns for a right message, and for one that is not.
-/
import Derived.Test.YtbfdgflbflajdaaGreatDoorGN
namespace Go.Proofs.YtbfdgflbflajdaaGreatDoor
open Go.RowKit

/-- strings.Join of a row of one's own, by line ends. -/
theorem join_own {w : World} {B : Nat} {v : Value} {O : List (List UInt8)} (h : w.ownsRow B 9 1 v O.length (O.map strV)) (h0 : 0 < O.length) (hN : O.length ≤ 1000000) (hl : (Lib.join O [10]).length ≤ 140737488355328) :
    Calls Tryz.prog 37 #[v, .string ⟨#[10]⟩] w fun e w' => e = .returned (.string ⟨(Lib.join O [10]).toArray⟩) ∧ Below w.heap.size w w' := by
  rcases h.2 with ⟨-, e⟩ | ⟨g, cap, cur, rfl, hb, hg, h1, h2, h3, h4⟩
  · omega
  · have e1 : (List.map (fun x => x.data.toList) (O.map (fun x => (⟨x.toArray⟩ : ByteArray)))) = O := by
      rw [List.map_map]
      conv => rhs; rw [← List.map_id O]
      apply List.map_congr_left
      intro x _
      simp
    have := Tryz.strings_Join g 0 cap (O.map (fun x => (⟨x.toArray⟩ : ByteArray))) ⟨#[10]⟩ w (fun j x hj => by
      have hjl : j < O.length := by
        have := (List.getElem?_eq_some_iff.1 hj).1
        simpa using this
      have hc := h.cells (g := g) rfl j (strV O[j]) (by simp [hjl])
      simp [hjl] at hj
      rw [Addr.add_lit] at hc
      rw [hc, ← hj]; rfl) (Array.getElem?_eq_some_iff.1 hg).1 (by simp; omega) (by simp; omega) (by rw [e1]; exact hl)
    rw [e1, List.length_map] at this
    exact this

set_option linter.unusedVariables false in
set_option linter.unusedSimpArgs false in
set_option maxRecDepth 100000 in
set_option maxHeartbeats 8000000 in
theorem wText_right (v : Value) (M : Ms) (E : Nat → Addr) (m : Int) (w : World) (hE : WireEnv w E m) (h : IsMsg w v M) (hM : RightM M) :
    Calls Tryz.prog 29 #[v] w fun r w' => r = .returned (.tuple #[.string ⟨(textM M).toArray⟩, .nilIface]) ∧ Below w.heap.size w w' := by
  have hs := h
  obtain ⟨p, c, q, d, rfl, i1, i2⟩ := h
  obtain ⟨K, n, D, L⟩ := M
  simp only at *
  have hc0 := (msgC_zero _).2 hM
  have hhd := headC_zero hM.head
  have hn : 0 ≤ n ∧ n ≤ 1000 := ⟨hhd.2.1, hhd.2.2.1⟩
  have hb0 := below_alloc w (.cells #[.string ⟨K.toArray⟩, .int .i64 n, .slice p D.length c, .slice q L.length d] 55)
  obtain ⟨x0, x1, x2, x3⟩ := msg_box w (.string ⟨K.toArray⟩) (.int .i64 n) (.slice p D.length c) (.slice q L.length d) (Below.refl _ _)
  obtain ⟨B, hB⟩ : ∃ B, Hid (w.heap.size = B) := ⟨_, show _ = _ from rfl⟩
  obtain ⟨W, hW⟩ : ∃ W, Hid (w.alloc (.cells #[.string ⟨K.toArray⟩, .int .i64 n, .slice p D.length c, .slice q L.length d] 55) = W) := ⟨_, show _ = _ from rfl⟩
  rw [show w.alloc (.cells #[.string ⟨K.toArray⟩, .int .i64 n, .slice p D.length c, .slice q L.length d] 55) = W from hW.out] at hb0 x0 x1 x2 x3
  rw [show w.heap.size = B from hB.out] at x0 x1 x2 x3
  obtain ⟨HB0⟩ : Nonempty (Hid (Below w.heap.size w W)) := ⟨hb0⟩
  have hend : ∀ w', Below W.heap.size W w' → Below w.heap.size w w' := fun w' hb => HB0.out.trans (hb.mono HB0.out.size)
  obtain ⟨HEND⟩ : Nonempty (Hid (∀ w', Below W.heap.size W w' → Below B w w')) := ⟨by rw [← show w.heap.size = B from hB.out]; exact hend⟩
  obtain ⟨HX⟩ : Nonempty (Hid (∀ w', Below W.heap.size W w' → w'.cell? ⟨B, 0, none⟩ = some (.string ⟨K.toArray⟩) ∧ w'.cell? ⟨B, 1, none⟩ = some (.int .i64 n) ∧ w'.cell? ⟨B, 2, none⟩ = some (.slice p D.length c) ∧ w'.cell? ⟨B, 3, none⟩ = some (.slice q L.length d))) := ⟨fun w' hb => ⟨cell_kept hb x0, cell_kept hb x1, cell_kept hb x2, cell_kept hb x3⟩⟩
  obtain ⟨HC⟩ : Nonempty (Hid (∀ w', Below W.heap.size W w' → Calls Tryz.prog 61 #[.agg #[.string ⟨K.toArray⟩, .int .i64 n, .slice p D.length c, .slice q L.length d]] w' fun r w'' => r = .returned .nilIface ∧ Below w'.heap.size w' w'')) := ⟨fun w' hb => by
    refine (wCheck_any _ ⟨K, n, D, L⟩ E m w' (hE.below (hend w' hb)) (hs.below (hend w' hb)) (by have := hM.len; simp only at this ⊢; omega) (by have := hM.len; simp only at this ⊢; omega) hM.mod).mono ?_
    rintro r w'' ⟨⟨v', rfl, hv⟩, hb'⟩
    rcases isErr_cases hv with ⟨-, rfl⟩ | ⟨h, -⟩
    · exact ⟨rfl, hb'⟩
    · rw [hc0] at h; omega⟩
  obtain ⟨HH⟩ : Nonempty (Hid (∀ w', Below W.heap.size W w' → Calls _ _ _ _ _)) := ⟨fun w' hb => headText_any K n (.slice p D.length c) (.slice q L.length d) rfl rfl E m w' (hE.below (hend w' hb)) (by omega) (by omega) hhd.1⟩
  obtain ⟨HP⟩ : Nonempty (Hid (∀ a b w', rt a b = true → Below W.heap.size W w' → Calls Tryz.prog 33 #[.agg #[.int .i64 a, .int .i64 b]] w' fun e w'' => e = .returned (.string ⟨(txtP a b).toArray⟩) ∧ Below w'.heap.size w' w'')) := ⟨fun a b w' hr hb => text_any a b (E 0) (E 1) (E 2) m w' (hE.below (hend w' hb)).ip hr⟩
  obtain ⟨HA⟩ : Nonempty (Hid (∀ va A w', RightA A → IsAttr w' va A → Below W.heap.size W w' → Calls Tryz.prog 9 #[va] w' fun e w'' => e = .returned (.string ⟨(textA A).toArray⟩) ∧ Below w'.heap.size w' w'')) := ⟨fun va A w' hr ha hb => text_right va A E m w' (hE.below (hend w' hb)).at1 ha hr⟩
  obtain ⟨HD⟩ : Nonempty (Hid (∀ w', Below W.heap.size W w' → Pairs w' p D ∧ Routes w' q L)) := ⟨fun w' hb => ⟨i1.below (hend w' hb), i2.below (hend w' hb)⟩⟩
  obtain ⟨HM⟩ : Nonempty (Hid (RightM ⟨K, n, D, L⟩)) := ⟨hM⟩
  obtain ⟨l0, hl0⟩ : ∃ l, Hid (headT K n = l) := ⟨_, show _ = _ from rfl⟩
  rw [show headT K n = l0 from hl0.out] at HH
  obtain ⟨T, hT⟩ : ∃ l, Hid (textM ⟨K, n, D, L⟩ = l) := ⟨_, show _ = _ from rfl⟩
  rw [show textM ⟨K, n, D, L⟩ = T from hT.out]
  obtain ⟨HW0⟩ : Nonempty (Hid (Below W.heap.size W W)) := ⟨Below.refl _ _⟩
  obtain ⟨i0, hi, hz0, hz1, hz2⟩ := info_parts infoS
  rw [show w.heap.size = B from hB.out]
  clear hE hs i1 i2 hc0 hhd hb0 hend hM
  have hDl : D.length ≤ 60 := HM.out.len.1
  have hLl : L.length ≤ 60 := HM.out.len.2
  go_enter Tryz.func29, Tryz.ntmps29
  go_wp2_with fail
  rw [show w.alloc (.cells #[.string ⟨K.toArray⟩, .int .i64 n, .slice p D.length c, .slice q L.length d] 55) = W from hW.out, show w.heap.size = B from hB.out]
  go_wp2_with fail
  refine (HC.out _ HW0.out).mono ?_
  rintro e w1 ⟨rfl, hb1⟩
  obtain ⟨y0, y1, y2, y3⟩ := HX.out w1 hb1
  obtain ⟨HB1⟩ : Nonempty (Hid (Below W.heap.size W w1)) := ⟨hb1⟩
  clear x0 x1 x2 x3 hb1
  go_wp2_with fail
  refine (HH.out _ HB1.out).mono ?_
  rintro e w2 ⟨rfl, hb2⟩
  obtain ⟨HB2⟩ : Nonempty (Hid (Below W.heap.size W w2)) := ⟨HB1.out.trans (hb2.mono HB1.out.size)⟩
  obtain ⟨HO2⟩ : Nonempty (Hid ((w2.alloc (.cells #[strV l0] 9)).ownsRow W.heap.size 9 1 (.slice (some ⟨w2.heap.size, 0, none⟩) 1 1) 1 [strV l0] ∧ Below W.heap.size W (w2.alloc (.cells #[strV l0] 9)))) := ⟨⟨World.ownsRow_lit w2 #[strV l0] 1 HB2.out.size (by unfold maxLen; omega) rfl, HB2.out.trans ((below_alloc _ _).mono HB2.out.size)⟩⟩
  obtain ⟨z0, z1, z2, z3⟩ := HX.out _ HO2.out.2
  clear y0 y1 y2 y3 hb2
  unfold strV at z0 z1 z2 z3
  go_wp2_with fail
  go_loopw [5, 21] (fun v i wr => ∃ (k : Nat), i = .int .i64 k ∧ k ≤ D.length ∧ wr.ownsRow W.heap.size 9 1 v (l0 :: (D.take k).map dropT).length ((l0 :: (D.take k).map dropT).map strV) ∧ Hid (Below W.heap.size W wr)) (fun _ i _ => D.length - (intOf i).toNat)
  case atStart => exact ⟨0, rfl, Nat.zero_le _, HO2.out.1, HO2.out.2⟩
  case round =>
    obtain ⟨k, rfl, hk, hown, HW⟩ := hrel
    by_cases hlt : k < D.length
    · have q3 : (k : Int) < D.length := by omega
      obtain ⟨b, o, rfl, e0, e1⟩ := (HD.out wr HW.out).1 k hlt
      obtain ⟨l1, hl1⟩ : ∃ l, Hid (txtP D[k].1 D[k].2 = l) := ⟨_, show _ = _ from rfl⟩
      have hr1 := HM.out.drops.rt D[k] (List.getElem_mem hlt)
      have hll : l1.length ≤ 200 := by rw [← hl1.out]; exact txtP_len hr1
      have hll' : ¬ 9223372036854775807 < 2 + l1.length := by omega
      obtain ⟨HC1⟩ : Nonempty (Hid (∀ w', Below W.heap.size W w' → Calls _ _ _ _ _)) := ⟨fun w' hb => HP.out D[k].1 D[k].2 w' hr1 hb⟩
      rw [show txtP D[k].1 D[k].2 = l1 from hl1.out] at HC1
      obtain ⟨HT⟩ : Nonempty (Hid (dropT D[k] = [45, 32] ++ l1)) := ⟨by show _ = _; unfold dropT; rw [hl1.out]⟩
      obtain ⟨yT, hyT⟩ : ∃ y, Hid (dropT D[k] = y) := ⟨_, show _ = _ from rfl⟩
      obtain ⟨HB4⟩ : Nonempty (Hid (Below W.heap.size W (wr.alloc (.cells #[.int .i64 D[k].1, .int .i64 D[k].2] 65)))) := ⟨HW.out.trans ((below_alloc _ _).mono HW.out.size)⟩
      obtain ⟨O', HO'⟩ : ∃ O', Hid ((l0 :: (D.take k).map dropT) ++ [dropT D[k]] = O') := ⟨_, show _ = _ from rfl⟩
      have HOX : Hid (l0 :: (D.take (k + 1)).map dropT = O') := by
        show _ = _
        rw [← HO'.out, List.take_succ_eq_append_getElem hlt]
        simp only [List.map_append, List.map_cons, List.map_nil, List.cons_append, List.append_assoc]
      have hkl : (D.take k).length = k := by simp; omega
      go_wp2_with fail
      refine (HC1.out _ HB4.out).mono ?_
      rintro e w4 ⟨rfl, hb4⟩
      obtain ⟨HB5⟩ : Nonempty (Hid (Below W.heap.size W w4)) := ⟨HB4.out.trans (hb4.mono HB4.out.size)⟩
      have hown4 := own_below (hown.alloc _) hb4
      clear hb4 hown e0 e1 hr1
      go_wp2_with (at_builtin; refine wp_pushS rfl _ _ 74 rfl W.heap.size i0 Tryz.underlying74 hi hz0 hz1 hz2 _ _ rfl hown4 _ (dropT D[k]) ?hy _ rfl rfl O' HO' ?hO HB5.out.size ?_)
      case hy =>
        rw [HT.out]
        apply ByteArray.ext
        simp [ByteArray.data_append]
      case hO => simp; omega
      intro v' w5 hown5 hb5 hk5
      obtain ⟨HB6⟩ : Nonempty (Hid (Below W.heap.size W w5)) := ⟨HB5.out.trans hb5⟩
      clear hown4 hb5 hk5
      go_wp2_with fail
      go_roundw
      case rel => exact ⟨k + 1, by go_num, by omega, by rw [HOX.out]; exact hown5, HB6.out⟩
      case measure => simp [intOf]; omega
    · obtain rfl : k = D.length := by omega
      rw [List.take_length] at hown
      obtain ⟨z0, z1, z2, z3⟩ := HX.out _ HW.out
      obtain ⟨HO3⟩ : Nonempty (Hid (wr.ownsRow W.heap.size 9 1 u5 (l0 :: D.map dropT).length ((l0 :: D.map dropT).map strV))) := ⟨hown⟩
      clear hown
      go_wp2_with fail
      go_loopw [5, 35] (fun v i wr => ∃ (k : Nat), i = .int .i64 k ∧ k ≤ L.length ∧ Hid (wr.ownsRow W.heap.size 9 1 v (l0 :: (D.map dropT ++ (L.take k).map addT)).length ((l0 :: (D.map dropT ++ (L.take k).map addT)).map strV)) ∧ Hid (Below W.heap.size W wr)) (fun _ i _ => L.length - (intOf i).toNat)
      case atStart => exact ⟨0, rfl, Nat.zero_le _, by rw [List.take_zero, List.map_nil, List.append_nil]; exact HO3, HW⟩
      case round =>
        clear z0 z1 z2 z3 HO3 HW
        obtain ⟨k, rfl, hk, HOWN, HW⟩ := hrel
        by_cases hlt : k < L.length
        · skip
          have q3 : (k : Int) < L.length := by omega
          obtain ⟨b, o, rfl, p1, c1, p2, c2, d0, d1, d2, d3, d4, d5, d6, d7, j1, j2⟩ := (HD.out wr HW.out).2 k hlt
          have hR := HM.out
          have hR1 := hR.rdst (List.getElem_mem hlt)
          have hR2 := hR.rattr (List.getElem_mem hlt)
          try simp only at hR1 hR2
          obtain ⟨a, hA1⟩ : ∃ l, Hid (L[k].dst.1 = l) := ⟨_, show _ = _ from rfl⟩
          obtain ⟨bb, hA2⟩ : ∃ l, Hid (L[k].dst.2 = l) := ⟨_, show _ = _ from rfl⟩
          obtain ⟨A, hA3⟩ : ∃ l, Hid (L[k].att = l) := ⟨_, show _ = _ from rfl⟩
          obtain ⟨fr, hA4⟩ : ∃ l, Hid (L[k].frm = l) := ⟨_, show _ = _ from rfl⟩
          rw [show L[k].dst.1 = a from hA1.out, show L[k].dst.2 = bb from hA2.out] at hR1
          rw [show L[k].att = A from hA3.out] at hR2
          rw [show L[k].dst.1 = a from hA1.out] at d0
          rw [show L[k].dst.2 = bb from hA2.out] at d1
          rw [show L[k].att = A from hA3.out] at d2 d3 d4 d5 d6 j1 j2
          rw [show L[k].frm = fr from hA4.out] at d7
          obtain ⟨l1, hl1⟩ : ∃ l, Hid (txtP a bb = l) := ⟨_, show _ = _ from rfl⟩
          obtain ⟨l2, hl2⟩ : ∃ l, Hid (textA A = l) := ⟨_, show _ = _ from rfl⟩
          have hs1 : l1.length ≤ 200 := by rw [← hl1.out]; exact txtP_len hR1
          have hs2 : l2.length ≤ 1000 := by rw [← hl2.out]; exact textA_len hR2
          have hs3 : ¬ 9223372036854775807 < 2 + l1.length := by omega
          have hs4 : ¬ 9223372036854775807 < 2 + l1.length + 1 := by omega
          have hs5 : ¬ 9223372036854775807 < 2 + l1.length + 1 + l2.length := by omega
          obtain ⟨HR⟩ : Nonempty (Hid (rt a bb = true ∧ RightA A)) := ⟨⟨hR1, hR2⟩⟩
          obtain ⟨HP1⟩ : Nonempty (Hid (∀ w', Below W.heap.size W w' → Calls _ _ _ _ _)) := ⟨fun w' hb => HP.out a bb w' hR1 hb⟩
          rw [show txtP a bb = l1 from hl1.out] at HP1
          obtain ⟨b9, hb9⟩ : ∃ b, Hid (wr.heap.size = b) := ⟨_, show _ = _ from rfl⟩
          obtain ⟨W9, hW9⟩ : ∃ b, Hid (wr.alloc (.cells #[.int .i64 a, .int .i64 bb, .slice p1 A.path.length c1, .int .i64 A.pref, .int .i64 A.med, .int .i64 A.org, .slice p2 A.tags.length c2, .int .i64 fr] 67) = b) := ⟨_, show _ = _ from rfl⟩
          have hbl : Below wr.heap.size wr W9 := by rw [← hW9.out]; exact below_alloc _ _
          have hX9 : W9.heap[b9]? = some (.cells #[.int .i64 a, .int .i64 bb, .slice p1 A.path.length c1, .int .i64 A.pref, .int .i64 A.med, .int .i64 A.org, .slice p2 A.tags.length c2, .int .i64 fr] 67 (0, 0)) := by rw [← hW9.out, ← hb9.out]; exact Go.heap_alloc_new wr _
          have hlt9 : b9 < W9.heap.size := by rw [← hW9.out, ← hb9.out]; simp
          have hS : ∀ w' : World, w'.heap[b9]? = W9.heap[b9]? → (fun w' => w'.cell? ⟨b9, 0, none⟩ = some (.int .i64 a) ∧ w'.cell? ⟨b9, 1, none⟩ = some (.int .i64 bb) ∧ w'.cell? ⟨b9, 2, none⟩ = some (.slice p1 A.path.length c1) ∧ w'.cell? ⟨b9, 3, none⟩ = some (.int .i64 A.pref) ∧ w'.cell? ⟨b9, 4, none⟩ = some (.int .i64 A.med) ∧ w'.cell? ⟨b9, 5, none⟩ = some (.int .i64 A.org) ∧ w'.cell? ⟨b9, 6, none⟩ = some (.slice p2 A.tags.length c2)) w' := fun w' e => by
            rw [hX9] at e
            simp [World.cell?, e]
          obtain ⟨HKC⟩ : Nonempty (Hid (∀ w', Below W9.heap.size W9 w' → (fun w' => w'.cell? ⟨b9, 0, none⟩ = some (.int .i64 a) ∧ w'.cell? ⟨b9, 1, none⟩ = some (.int .i64 bb) ∧ w'.cell? ⟨b9, 2, none⟩ = some (.slice p1 A.path.length c1) ∧ w'.cell? ⟨b9, 3, none⟩ = some (.int .i64 A.pref) ∧ w'.cell? ⟨b9, 4, none⟩ = some (.int .i64 A.med) ∧ w'.cell? ⟨b9, 5, none⟩ = some (.int .i64 A.org) ∧ w'.cell? ⟨b9, 6, none⟩ = some (.slice p2 A.tags.length c2)) w')) := ⟨fun w' hb => hS w' (hb.block b9 hlt9)⟩
          obtain ⟨HKX⟩ : Nonempty (Hid (∀ (w5 w6 : World) (v : Value) (n : Nat) (xs : List Value), Below W9.heap.size W9 w5 → (∀ k, k < w5.heap.size → some k ≠ v.ownBlock → w6.heap[k]? = w5.heap[k]?) → w5.ownsRow W.heap.size 9 1 v n xs → (fun w' => w'.cell? ⟨b9, 0, none⟩ = some (.int .i64 a) ∧ w'.cell? ⟨b9, 1, none⟩ = some (.int .i64 bb) ∧ w'.cell? ⟨b9, 2, none⟩ = some (.slice p1 A.path.length c1) ∧ w'.cell? ⟨b9, 3, none⟩ = some (.int .i64 A.pref) ∧ w'.cell? ⟨b9, 4, none⟩ = some (.int .i64 A.med) ∧ w'.cell? ⟨b9, 5, none⟩ = some (.int .i64 A.org) ∧ w'.cell? ⟨b9, 6, none⟩ = some (.slice p2 A.tags.length c2)) w6)) := ⟨fun w5 w6 v n xs hb hk ho => hS w6 (by
            have e5 := hb.block b9 hlt9
            rw [← e5]
            refine hk b9 (Nat.lt_of_lt_of_le hlt9 hb.size) fun he => ?_
            obtain ⟨c', fz, hc⟩ := ownsRow_kind ho b9 he.symm
            rw [e5, hX9] at hc
            simp only [Option.some.injEq, Obj.cells.injEq] at hc
            exact absurd hc.2.1 (by decide))⟩
          obtain ⟨HB9⟩ : Nonempty (Hid (Below W.heap.size W W9)) := ⟨HW.out.trans (hbl.mono HW.out.size)⟩
          obtain ⟨HOW⟩ : Nonempty (Hid (∀ w', Below W9.heap.size W9 w' → w'.ownsRow W.heap.size 9 1 u5 (l0 :: (D.map dropT ++ (L.take k).map addT)).length ((l0 :: (D.map dropT ++ (L.take k).map addT)).map strV))) := ⟨fun w' hb => own_below (own_below HOWN.out hbl) hb⟩
          obtain ⟨HI⟩ : Nonempty (Hid (∀ w', Below W9.heap.size W9 w' → IsAttr w' (.agg #[.slice p1 A.path.length c1, .int .i64 A.pref, .int .i64 A.med, .int .i64 A.org, .slice p2 A.tags.length c2]) A)) := ⟨fun w' hb => ⟨p1, c1, p2, c2, rfl, j1.below (hbl.trans (hb.mono hbl.size)), j2.below (hbl.trans (hb.mono hbl.size))⟩⟩
          obtain ⟨HA1⟩ : Nonempty (Hid (∀ w', Below W9.heap.size W9 w' → Calls _ _ _ _ _)) := ⟨fun w' hb => HA.out _ A w' hR2 (HI.out w' hb) (HB9.out.trans (hb.mono HB9.out.size))⟩
          rw [show textA A = l2 from hl2.out] at HA1
          have hkl : (L.take k).length = k := by simp; omega
          clear hR hR1 hR2 hbl hX9 hlt9 hS j1 j2
          go_upto_region 13 with fail
          rw [show wr.alloc (.cells #[.int .i64 a, .int .i64 bb, .slice p1 A.path.length c1, .int .i64 A.pref, .int .i64 A.med, .int .i64 A.org, .slice p2 A.tags.length c2, .int .i64 fr] 67) = W9 from hW9.out, show wr.heap.size = b9 from hb9.out]
          clear d0 d1 d2 d3 d4 d5 d6 d7
          refine wp_region_held_drew (S := (fun w' => w'.cell? ⟨b9, 0, none⟩ = some (.int .i64 a) ∧ w'.cell? ⟨b9, 1, none⟩ = some (.int .i64 bb) ∧ w'.cell? ⟨b9, 2, none⟩ = some (.slice p1 A.path.length c1) ∧ w'.cell? ⟨b9, 3, none⟩ = some (.int .i64 A.pref) ∧ w'.cell? ⟨b9, 4, none⟩ = some (.int .i64 A.med) ∧ w'.cell? ⟨b9, 5, none⟩ = some (.int .i64 A.org) ∧ w'.cell? ⟨b9, 6, none⟩ = some (.slice p2 A.tags.length c2))) (by kernel_rfl) ?_ (fun hHeld => ?_)
          · exact HKC.out _ (Below.drew (Below.refl _ _))
          refine wpAnyH_take (i := 0) (v := ?_) rfl (by kernel_rfl) (by kernel_rfl) (by kernel_rfl) (fun _ _ _ h => h) (Or.inl ⟨by rfl, ?_⟩) (by assumption) ?_
          rotate_left
          · (intro w hSw; (try dsimp only at hSw); go_simp; try (with_reducible rfl))
          try simp only [Act.put, List.setIfInBounds_toArray, List.set_cons_zero, List.set_cons_succ, List.getElem_toArray, List.getElem_cons_zero, List.getElem_cons_succ]
          refine wpAnyH_take (i := 1) (v := ?_) rfl (by kernel_rfl) (by kernel_rfl) (by kernel_rfl) (fun _ _ _ h => h) (Or.inl ⟨by rfl, ?_⟩) (by assumption) ?_
          rotate_left
          · (intro w hSw; (try dsimp only at hSw); go_simp; try (with_reducible rfl))
          try simp only [Act.put, List.setIfInBounds_toArray, List.set_cons_zero, List.set_cons_succ, List.getElem_toArray, List.getElem_cons_zero, List.getElem_cons_succ]
          refine wpAnyH_take (i := 2) (v := ?_) rfl (by kernel_rfl) (by kernel_rfl) (by kernel_rfl) (fun _ _ _ h => h) (Or.inl ⟨by rfl, ?_⟩) (by assumption) ?_
          rotate_left
          · (intro w hSw; (try dsimp only at hSw); go_simp; try (with_reducible rfl))
          try simp only [Act.put, List.setIfInBounds_toArray, List.set_cons_zero, List.set_cons_succ, List.getElem_toArray, List.getElem_cons_zero, List.getElem_cons_succ]
          refine wpAnyH_take (i := 6) (v := ?_) rfl (by kernel_rfl) (by kernel_rfl) (by kernel_rfl) (fun _ _ _ h => h) (Or.inl ⟨by rfl, ?_⟩) (by assumption) ?_
          rotate_left
          · (intro w hSw; (try dsimp only at hSw); go_simp; try (with_reducible rfl))
          try simp only [Act.put, List.setIfInBounds_toArray, List.set_cons_zero, List.set_cons_succ, List.getElem_toArray, List.getElem_cons_zero, List.getElem_cons_succ]
          refine wpAnyH_take (i := 7) (v := ?_) rfl (by kernel_rfl) (by kernel_rfl) (by kernel_rfl) (fun _ _ _ h => h) (Or.inl ⟨by rfl, ?_⟩) (by assumption) ?_
          rotate_left
          · (intro w hSw; (try dsimp only at hSw); go_simp; try (with_reducible rfl))
          try simp only [Act.put, List.setIfInBounds_toArray, List.set_cons_zero, List.set_cons_succ, List.getElem_toArray, List.getElem_cons_zero, List.getElem_cons_succ]
          refine wpAnyH_ready (rs := [3]) (by kernel_rfl) (by simp) ?_
          refine AllReadyH.cons rfl (fun K hK => ?_) AllReadyH.nil
          go_simp
          refine (HP1.out _ (HB9.out.trans ((Below.drew (Below.refl _ _)).mono HB9.out.size))).mono ?_
          rintro e w4 ⟨rfl, hb4⟩
          obtain ⟨HB4⟩ : Nonempty (Hid (Below W9.heap.size W9 w4)) := ⟨(Below.drew (Below.refl _ _)).trans hb4⟩
          have hKeep := HKC.out _ HB4.out
          clear hb4 hHeld
          refine hK.out _ _ ?_ (fun hHeld => ?_)
          · exact hKeep
          clear hK K
          try simp only [Act.put, List.setIfInBounds_toArray, List.set_cons_zero, List.set_cons_succ, List.getElem_toArray, List.getElem_cons_zero, List.getElem_cons_succ]
          refine wpAnyH_take (i := 4) (v := ?_) rfl (by kernel_rfl) (by kernel_rfl) (by kernel_rfl) (fun _ _ _ h => h) (Or.inl ⟨by rfl, ?_⟩) (by assumption) ?_
          rotate_left
          · (intro w hSw; (try dsimp only at hSw); go_simp; try (with_reducible rfl))
          try simp only [Act.put, List.setIfInBounds_toArray, List.set_cons_zero, List.set_cons_succ, List.getElem_toArray, List.getElem_cons_zero, List.getElem_cons_succ]
          refine wpAnyH_take (i := 5) (v := ?_) rfl (by kernel_rfl) (by kernel_rfl) (by kernel_rfl) (fun _ _ _ h => h) (Or.inl ⟨by rfl, ?_⟩) (by assumption) ?_
          rotate_left
          · (intro w hSw; (try dsimp only at hSw); go_simp; try (with_reducible rfl))
          try simp only [Act.put, List.setIfInBounds_toArray, List.set_cons_zero, List.set_cons_succ, List.getElem_toArray, List.getElem_cons_zero, List.getElem_cons_succ]
          refine wpAnyH_ready (rs := [8]) (by kernel_rfl) (by simp) ?_
          refine AllReadyH.cons rfl (fun K hK => ?_) AllReadyH.nil
          go_simp
          refine (HA1.out _ HB4.out).mono ?_
          rintro e w5 ⟨rfl, hb5⟩
          obtain ⟨HB5⟩ : Nonempty (Hid (Below W9.heap.size W9 w5)) := ⟨HB4.out.trans (hb5.mono HB4.out.size)⟩
          have hKeep := HKC.out _ HB5.out
          clear hb5 hHeld
          refine hK.out _ _ ?_ (fun hHeld => ?_)
          · exact hKeep
          clear hK K
          try simp only [Act.put, List.setIfInBounds_toArray, List.set_cons_zero, List.set_cons_succ, List.getElem_toArray, List.getElem_cons_zero, List.getElem_cons_succ]
          refine wpAnyH_take (i := 9) (v := ?_) rfl (by kernel_rfl) (by kernel_rfl) (by kernel_rfl) (fun _ _ _ h => h) (Or.inl ⟨by rfl, ?_⟩) (by assumption) ?_
          rotate_left
          · (intro w hSw; (try dsimp only at hSw); go_simp; try (with_reducible rfl))
          try simp only [Act.put, List.setIfInBounds_toArray, List.set_cons_zero, List.set_cons_succ, List.getElem_toArray, List.getElem_cons_zero, List.getElem_cons_succ]
          refine wpAnyH_ready (rs := [10]) (by kernel_rfl) (by simp) ?_
          refine AllReadyH.cons rfl (fun K hK => ?_) AllReadyH.nil
          go_simp
          refine hK.out _ _ ?_ (fun hHeld => ?_)
          · exact HKC.out _ (HB5.out.trans ((below_alloc _ _).mono HB5.out.size))
          clear hK K
          try simp only [Act.put, List.setIfInBounds_toArray, List.set_cons_zero, List.set_cons_succ, List.getElem_toArray, List.getElem_cons_zero, List.getElem_cons_succ]
          obtain ⟨O', HO'⟩ : ∃ O', Hid ((l0 :: (D.map dropT ++ (L.take k).map addT)) ++ [addT L[k]] = O') := ⟨_, show _ = _ from rfl⟩
          refine wpAnyH_ready (rs := [11]) (by kernel_rfl) (by simp) ?_
          refine AllReadyH.cons rfl (fun K hK => ?_) AllReadyH.nil
          rw [if_pos (by rfl)]
          refine op_pushS (.tmp 39) (.tmp 49) 74 rfl W.heap.size i0 Tryz.underlying74 hi hz0 hz1 hz2 _ _ rfl (HOW.out w5 HB5.out) _ (addT L[k]) ?hy _ rfl (by simp) O' HO' ?hO ?hb ?_
          case hy =>
            unfold addT
            rw [show L[k].dst.1 = a from hA1.out, show L[k].dst.2 = bb from hA2.out, show L[k].att = A from hA3.out, show txtP a bb = l1 from hl1.out, show textA A = l2 from hl2.out]
            apply ByteArray.ext
            simp [ByteArray.data_append]
          case hO => simp; omega
          case hb => exact Nat.le_trans HB9.out.size HB5.out.size
          intro v' w6 hown6 hb6 hk6
          obtain ⟨HB6⟩ : Nonempty (Hid (Below W.heap.size W w6)) := ⟨(HB9.out.trans (HB5.out.mono HB9.out.size)).trans hb6⟩
          have hKeep := HKX.out w5 w6 _ _ _ HB5.out hk6.1 (HOW.out w5 HB5.out)
          clear hHeld hk6 hb6
          refine hK.out _ _ ?_ (fun hHeld => ?_)
          · exact hKeep
          clear hK K hKeep
          try simp only [Act.put, List.setIfInBounds_toArray, List.set_cons_zero, List.set_cons_succ, List.getElem_toArray, List.getElem_cons_zero, List.getElem_cons_succ]
          refine wpAnyH_take (i := 12) (v := ?_) rfl (by kernel_rfl) (by kernel_rfl) (by kernel_rfl) (fun _ _ _ h => h) (Or.inl ⟨by rfl, ?_⟩) (by assumption) ?_
          rotate_left
          · (intro w hSw; (try dsimp only at hSw); go_simp; try (with_reducible rfl))
          try simp only [Act.put, List.setIfInBounds_toArray, List.set_cons_zero, List.set_cons_succ, List.getElem_toArray, List.getElem_cons_zero, List.getElem_cons_succ]
          refine wpAnyH_done (by kernel_rfl) ?_ _
          clear hHeld
          have HOX : Hid (l0 :: (D.map dropT ++ (L.take (k + 1)).map addT) = O') := by
            show _ = _
            rw [← HO'.out, List.take_succ_eq_append_getElem hlt]
            simp only [List.map_append, List.map_cons, List.map_nil, List.cons_append, List.append_assoc]
          go_wp2_with fail
          go_roundw
          case rel => exact ⟨k + 1, by go_num, by omega, by rw [HOX.out]; exact hown6, HB6.out⟩
          case measure => simp [intOf]; omega
        · obtain rfl : k = L.length := by omega
          obtain ⟨HJ⟩ : Nonempty (Hid (Calls Tryz.prog 37 #[u5, .string ⟨#[10]⟩] wr fun e w' => e = .returned (.string ⟨(Lib.join (linesM ⟨K, n, D, L⟩) [10]).toArray⟩) ∧ Below wr.heap.size wr w')) := ⟨by
            have e : l0 :: (D.map dropT ++ (L.take L.length).map addT) = linesM ⟨K, n, D, L⟩ := by rw [List.take_length, ← hl0.out]; rfl
            have h1 := HOWN.out
            rw [e] at h1
            have h2 := linesM_len HM.out
            have h3 := join_len HM.out
            exact join_own h1 (by omega) (by omega) (by omega)⟩
          have h3 := join_len HM.out
          obtain ⟨j, hj⟩ : ∃ j, Hid (Lib.join (linesM ⟨K, n, D, L⟩) [10] = j) := ⟨_, show _ = _ from rfl⟩
          have HT2 : Hid (T = j ++ [10]) := by
            show _ = _
            rw [← hT.out, ← hj.out]; rfl
          rw [show Lib.join (linesM ⟨K, n, D, L⟩) [10] = j from hj.out] at HJ h3
          have h4 : ¬ 9223372036854775807 < j.length + 1 := by omega
          clear HOWN
          go_wp2_with fail
          refine HJ.out.mono ?_
          rintro e w4 ⟨rfl, hb4⟩
          obtain ⟨HB4⟩ : Nonempty (Hid (Below B w w4)) := ⟨HEND.out _ (HW.out.trans (hb4.mono HW.out.size))⟩
          clear hb4
          go_wp2_with fail
          go_ret2
          exact ⟨by rw [HT2.out]; simp [ByteArray.ext_iff, ByteArray.data_append], HB4.out⟩
end Go.Proofs.YtbfdgflbflajdaaGreatDoor
