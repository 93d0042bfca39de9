/-
  package fib's Find, Put and Drop.
-/
import Derived.Test.YthehpnhjfnenoabDoorFibFace
namespace Go.Proofs.YthehpnhjfnenoabDoor
open Go.RowKit

set_option linter.unusedVariables false in
set_option linter.unusedSimpArgs false in
set_option maxRecDepth 100000 in
set_option maxHeartbeats 1000000 in
theorem find_any (tb : Nat) (L : List Ent) (mo a : Int) (F : List Nat) (E : Nat → Addr) (w : World) (h : IsTab w tb L mo F) (hE : FibErrs w E) :
    Calls Tryd.prog 17 #[.pointer (some ⟨tb, 0, none⟩), .int .i64 a] w fun r w' => ∃ o, Longest L a o ∧ r = .returned (.tuple #[.agg #[.int .i64 (accE o).1.1, .int .i64 (accE o).1.2], .int .i64 (accE o).2, .bool o.isSome]) ∧ Below w.heap.size w w' := by
  obtain ⟨T, h1, rfl, h3⟩ := h
  have hba := below_alloc w (.cells #[.int .i64 0, .int .i64 0] 36)
  have hrow := Go.heap_alloc_new w (.cells #[.int .i64 0, .int .i64 0] 36)
  obtain ⟨HC⟩ : Nonempty (Hid (Calls _ _ _ _ _)) := ⟨has_any 0 0 a _ _ _ _ (hE.below hba).ip⟩
  obtain ⟨HT⟩ : Nonempty (Hid (Tab (w.alloc (.cells #[.int .i64 0, .int .i64 0] 36)) tb T mo)) := ⟨h1.below hba⟩
  obtain ⟨sz, hsz⟩ : ∃ b, Hid (w.heap.size = b) := ⟨_, show _ = _ from rfl⟩
  obtain ⟨W, hW⟩ : ∃ X, Hid (w.alloc (.cells #[.int .i64 0, .int .i64 0] 36) = X) := ⟨_, show _ = _ from rfl⟩
  rw [show w.alloc (.cells #[.int .i64 0, .int .i64 0] 36) = W from hW.out] at hba hrow HC HT
  rw [show w.heap.size = sz from hsz.out] at hba hrow ⊢
  clear h1 h3 hE
  go_enter Tryd.func17, Tryd.ntmps17
  go_upto_region 1 with fail
  rw [show w.alloc (.cells #[.int .i64 0, .int .i64 0] 36) = W from hW.out, show w.heap.size = sz from hsz.out]
  cases hA : isA a with
  | false =>
    rw [hasB_not hA] at HC
    go_wp2_with fail
    refine HC.out.mono ?_
    clear HC
    rintro e w1 ⟨rfl, hb1⟩
    have hr1 : w1.heap[sz]? = some (.cells #[.int .i64 0, .int .i64 0] 36 (0, 0)) := by rw [hb1.block sz (Array.getElem?_eq_some_iff.1 hrow).1]; exact hrow
    obtain ⟨c0, c1, f0, f1⟩ : w1.cell? ⟨sz, 0, none⟩ = some (.int .i64 0) ∧ w1.cell? ⟨sz, 1, none⟩ = some (.int .i64 0) ∧ w1.frozen? ⟨sz, 0, none⟩ = false ∧ w1.frozen? ⟨sz, 1, none⟩ = false := by
      refine ⟨?_, ?_, ?_, ?_⟩ <;> simp [World.cell?, World.frozen?, hr1]
    have hb2 := hba.trans (hb1.mono (Nat.le_of_lt (Array.getElem?_eq_some_iff.1 hrow).1))
    clear hb1 hr1
    go_wp2_with fail
    exact bodyPost_ret (v := .tuple #[.agg #[.int .i64 0, .int .i64 0], .int .i64 0, .bool false]) (by simp [results, Tryd.results17, go_sem, c0, c1]) rfl ⟨none, longest_isA hA, rfl, (hb2.setCell (by simp) _).setCell (by simp) _⟩
  | true =>
    rw [has_00 hA] at HC
    obtain ⟨o, ho⟩ : ∃ o, Hid (T.down 0 0 a 32 none = o) := ⟨_, show _ = _ from rfl⟩
    obtain ⟨HO⟩ : Nonempty (Hid (Longest T.ents a o)) := ⟨by
      rcases down_longest T 0 0 a none rt_00 HT.out.ok (has_00 hA) with ⟨x, h1, h2⟩ | ⟨h1, h2⟩
      · rw [ho.out] at h2; rw [h2]; exact h1
      · rw [ho.out] at h2; rw [h2]; exact h1⟩
    go_wp2_with fail
    refine HC.out.mono ?_
    clear HC
    rintro e w1 ⟨rfl, hb1⟩
    obtain ⟨HC⟩ : Nonempty (Hid (Calls _ _ _ _ _)) := ⟨longest_any tb T mo a 32 w1 (HT.out.below hb1) hA (by decide) (by decide) o ho⟩
    have hszW := (Array.getElem?_eq_some_iff.1 hrow).1
    have hr1 : w1.heap[sz]? = some (.cells #[.int .i64 0, .int .i64 0] 36 (0, 0)) := by rw [hb1.block sz hszW]; exact hrow
    have hb2 := hba.trans (hb1.mono (Nat.le_of_lt hszW))
    clear hb1 hba hrow hszW
    go_wp2_with fail
    refine HC.out.mono ?_
    clear HC
    rintro e w2 ⟨rfl, hb3⟩
    have hsz1 := (Array.getElem?_eq_some_iff.1 hr1).1
    have hr2 : w2.heap[sz]? = some (.cells #[.int .i64 0, .int .i64 0] 36 (0, 0)) := by rw [hb3.block sz hsz1]; exact hr1
    have hb4 := hb2.trans (hb3.mono (Nat.le_of_lt hsz1))
    obtain ⟨⟨⟨x0, x1⟩, x2⟩, hx⟩ : ∃ x, Hid (accE o = x) := ⟨_, show _ = _ from rfl⟩
    obtain ⟨c0, c1, f0, f1⟩ : w2.cell? ⟨sz, 0, none⟩ = some (.int .i64 0) ∧ w2.cell? ⟨sz, 1, none⟩ = some (.int .i64 0) ∧ w2.frozen? ⟨sz, 0, none⟩ = false ∧ w2.frozen? ⟨sz, 1, none⟩ = false := by
      refine ⟨?_, ?_, ?_, ?_⟩ <;> simp [World.cell?, World.frozen?, hr2]
    have hsz2 : sz < w2.heap.size := (Array.getElem?_eq_some_iff.1 hr2).1
    obtain ⟨HF⟩ : Nonempty (Hid (Longest T.ents a o ∧ Below sz w w2)) := ⟨⟨HO.out, hb4⟩⟩
    clear hb2 hb3 hb4 hr1 hr2 hsz1 HO HT ho
    rw [show accE o = ((x0, x1), x2) from hx.out]
    go_wp2_with fail
    go_region
    all_goals
      go_wp2_with fail
      exact bodyPost_ret (v := .tuple #[.agg #[.int .i64 x0, .int .i64 x1], .int .i64 x2, .bool o.isSome]) (by simp [results, Tryd.results17, go_sem, c0, c1, hsz2]) rfl ⟨o, HF.out.1, by rw [show accE o = ((x0, x1), x2) from hx.out], (((HF.out.2.setCell (Nat.le_refl _) _).setCell (Nat.le_refl _) _).alloc (by simp [World.setCell]; omega) _).drew⟩
end Go.Proofs.YthehpnhjfnenoabDoor
