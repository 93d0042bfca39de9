/-
  package fib's Set: just these.
-/
import Derived.Test.YthehpnhjfnenoabDoorFibSet
namespace Go.Proofs.YthehpnhjfnenoabDoor
open Go.RowKit

set_option linter.unusedVariables false in
set_option linter.unusedSimpArgs false in
set_option maxRecDepth 100000 in
set_option maxHeartbeats 2000000 in
theorem set_any (tb : Nat) (L l : List Ent) (mo : Int) (F : List Nat) (E : Nat → Addr) (p : Option Addr) (cap : Nat) (w : World) (h : IsTab w tb L mo F) (hl : Ents w p l) (hE : FibErrs w E) (hX : ExLaid w E) (hF : ∀ b ∈ F, 12 ≤ b) (hw : 12 ≤ w.heap.size) (hlen : l.length ≤ 1000000) :
    Calls Tryd.prog 20 #[.pointer (some ⟨tb, 0, none⟩), .slice p l.length cap] w (SetPost mo F tb E l w) := by
  have hle := h.le
  obtain ⟨HT⟩ : Nonempty (Hid (IsTab w tb L mo F ∧ Ents w p l)) := ⟨⟨h, hl⟩⟩
  obtain ⟨HI⟩ : Nonempty (Hid (In0 w.heap.size E w w ∧ ExLaid w E)) := ⟨⟨⟨Below.refl _ _, Nat.le_refl _, hw, hE⟩, hX⟩⟩
  obtain ⟨t1⟩ : Nonempty (w.cell? ⟨tb, 1, none⟩ = some (.int .i64 mo)) := ⟨by
    obtain ⟨T, h1, -, -⟩ := h
    exact (tab_cells h1.obj).2.1⟩
  obtain ⟨HC⟩ : Nonempty (Hid (Calls _ _ _ _ _)) := ⟨new_any mo mo (show min (max mo 0) 60 = mo by omega) w⟩
  obtain ⟨B, hB⟩ : ∃ b, Hid (w.heap.size = b) := ⟨_, show _ = _ from rfl⟩
  rw [show w.heap.size = B from hB.out] at HI HC hw
  clear h hl hE hX
  go_enter Tryd.func20, Tryd.ntmps20
  go_wp2_with fail
  refine HC.out.mono ?_
  clear HC
  rintro e w1 ⟨rfl, it, hb1⟩
  obtain ⟨H1⟩ : Nonempty (Hid (In0 B E w w1 ∧ Own B w1 B [] mo [B] ∧ ExLaid w1 E)) := ⟨⟨HI.out.1.next hb1, ⟨it, by simp⟩, HI.out.2.below hb1 hw⟩⟩
  clear it hb1 t1
  go_wp2_with fail
  go_loopw [4, 6, 7, 8, 16] (fun _ _ _ _ i wr => ∃ (k : Nat) (M : List Ent) (G : List Nat), i = .int .i64 k ∧ Hid (okAt mo l k ∧ accL l k = M ∧ In0 B E w wr ∧ Own B wr B M mo G ∧ ExLaid wr E) ∧ k ≤ l.length) (fun _ _ _ _ i _ => l.length - (intOf i).toNat)
  case atStart => exact ⟨0, [], [B], rfl, ⟨fun i _ h => by omega, rfl, H1.out.1, H1.out.2.1, H1.out.2.2⟩, Nat.zero_le _⟩
  case round =>
    obtain ⟨k, M, G, rfl, HK, hkl⟩ := hrel
    clear H1
    by_cases hlt : k < l.length
    · as_aux_lemma =>
      have q3 : (k : Int) < l.length := by omega
      obtain ⟨b, o, rfl, c0, c1, c2⟩ := HT.out.2 k hlt
      obtain ⟨⟨⟨x0, x1⟩, x2⟩, hx⟩ : ∃ x, Hid (l[k] = x) := ⟨_, show _ = _ from rfl⟩
      rw [hx.out] at c0 c1 c2
      simp only at c0 c1 c2
      have hbw := HK.out.2.2.1.below
      rw [← show w.heap.size = B from hB.out] at hbw
      replace c0 := cell_kept hbw c0
      replace c1 := cell_kept hbw c1
      replace c2 := cell_kept hbw c2
      clear hbw
      have hb0 : b < wr.heap.size := cell_lt' c0
      have hba := below_alloc wr (.cells #[.int .i64 x0, .int .i64 x1, .int .i64 x2] 44)
      obtain ⟨HA⟩ : Nonempty (Hid (In0 B E w (wr.alloc (.cells #[.int .i64 x0, .int .i64 x1, .int .i64 x2] 44)) ∧ Own B (wr.alloc (.cells #[.int .i64 x0, .int .i64 x1, .int .i64 x2] 44)) B M mo G ∧ ExLaid (wr.alloc (.cells #[.int .i64 x0, .int .i64 x1, .int .i64 x2] 44)) E)) := ⟨⟨HK.out.2.2.1.all hba, HK.out.2.2.2.1.all hba, HK.out.2.2.2.2.below (hba.mono HK.out.2.2.1.size) hw⟩⟩
      obtain ⟨HC⟩ : Nonempty (Hid (Calls _ _ _ _ _)) := ⟨add_any B M mo x0 x1 x2 G E _ HA.out.2.1.1 HA.out.1.errs HA.out.2.2 (fun b hb => Nat.le_trans hw (HA.out.2.1.2 b hb)) (Nat.le_trans hw HA.out.1.size)⟩
      clear hba
      cases hcode : addC M mo x0 x1 with
      | zero =>
        have e2 : addS M mo x0 x1 x2 = putL M ((x0, x1), x2) := by unfold addS; rw [hcode, if_pos rfl]
        rw [hcode, e2] at HC
        simp only [ev] at HC
        obtain ⟨HR⟩ : Nonempty (Hid (okAt mo l (k + 1) ∧ accL l (k + 1) = putL M ((x0, x1), x2))) := ⟨⟨okAt_succ HK.out.1 hlt (by rw [HK.out.2.1, hx.out]; exact hcode), by rw [accL_succ hlt, HK.out.2.1, hx.out]⟩⟩
        clear hcode e2
        go_wp2_with fail
        refine HC.out.mono ?_
        clear HC
        intro e w2 hp
        obtain ⟨rfl, G', og, ig, hbg, kg, sg⟩ := hp.law HA.out.1 HA.out.2.1
        obtain ⟨HN⟩ : Nonempty (Hid (In0 B E w w2 ∧ Own B w2 B (putL M ((x0, x1), x2)) mo G' ∧ ExLaid w2 E)) := ⟨⟨ig, og, HA.out.2.2.below hbg hw⟩⟩
        clear og ig hbg kg sg hp
        go_wp2_with fail
        go_roundw
        case rel => first | exact ⟨k + 1, _, G', by go_num, ⟨HR.out.1, HR.out.2, HN.out.1, HN.out.2.1, HN.out.2.2⟩, by omega⟩ | ((repeat apply Exists.intro); exact ⟨⟨k + 1, _, G', by go_num, ⟨HR.out.1, HR.out.2, HN.out.1, HN.out.2.1, HN.out.2.2⟩, by omega⟩, rfl⟩)
        case measure => simp [intOf]; omega
      | succ c =>
        rw [hcode] at HC
        simp only [ev] at HC
        obtain ⟨HR⟩ : Nonempty (Hid (okAt mo l k ∧ addC (accL l k) mo l[k].1.1 l[k].1.2 = c + 1)) := ⟨⟨HK.out.1, by rw [HK.out.2.1, hx.out]; exact hcode⟩⟩
        clear hcode
        go_wp2_with fail
        refine HC.out.mono ?_
        clear HC
        intro e w2 hp
        obtain ⟨rfl, G', og, ig, hbg, kg, sg⟩ := hp.law HA.out.1 HA.out.2.1
        have hrow := Go.heap_alloc_new w2 (faultObj k (.iface 180 (.pointer (some (E c)))))
        have hbe := ig.below.alloc ig.size (faultObj k (.iface 180 (.pointer (some (E c)))))
        rw [← show w.heap.size = B from hB.out] at hbe
        obtain ⟨HF⟩ : Nonempty (Hid (SetPost mo F tb E l w (.returned (.iface 86 (.pointer (some ⟨w2.heap.size, 0, none⟩)))) (w2.alloc (faultObj k (.iface 180 (.pointer (some (E c)))))))) := ⟨.inr ⟨k, hlt, c, w2.heap.size, HR.out.1, HR.out.2, rfl, hrow, hbe⟩⟩
        clear og ig hbg kg sg hp hrow hbe
        go_wp2_with fail
        go_ret
        exact HF.out
    · as_aux_lemma =>
      obtain rfl : k = l.length := by omega
      clear hlt hkl
      have hbw := HK.out.2.2.1.below
      rw [← show w.heap.size = B from hB.out] at hbw
      have hFl : ∀ b ∈ F, b < w.heap.size := HT.out.1.lt
      obtain ⟨q, f0, f1, f2, tz, ⟨q0, t0⟩, t1, ⟨q2, t2⟩, F', g1, g2, g3⟩ := tab_copy (w := w) (HT.out.1.below hbw) HK.out.2.2.2.1.1 (fun b hb hm => by have := HK.out.2.2.2.1.2 b hb; have := hFl b hm; rw [hB.out] at this; omega) hbw (fun b hb => by rw [hB.out]; exact HK.out.2.2.2.1.2 b hb) hFl
      obtain ⟨HF⟩ : Nonempty (Hid (_ ∧ _)) := ⟨And.intro g1 (And.intro g2 g3)⟩
      clear g1 g2 g3 hbw hFl
      go_wp2_with fail
      go_ret
      exact .inl ⟨HK.out.1, rfl, F', by rw [HK.out.2.1]; exact HF.out.1, HF.out.2.1, HF.out.2.2⟩
end Go.Proofs.YthehpnhjfnenoabDoor
