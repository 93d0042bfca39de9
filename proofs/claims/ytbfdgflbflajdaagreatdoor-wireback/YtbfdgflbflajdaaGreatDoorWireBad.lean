/-
  Package wire's Text at a message that is not right; the law's closed fact: what they return.
-/
import Derived.Test.YtbfdgflbflajdaaGreatDoorWireText2
import Derived.Test.YtbfdgflbflajdaaGreatDoorWireRead
namespace Go.Proofs.YtbfdgflbflajdaaGreatDoor
open Go.RowKit

set_option linter.unusedVariables false in
set_option linter.unusedSimpArgs false in
set_option maxRecDepth 100000 in
set_option maxHeartbeats 4000000 in
theorem wText_bad (v : Value) (M : Ms) (E : Nat → Addr) (m : Int) (w : World) (hE : WireEnv w E m) (h : IsMsg w v M) (h1 : M.drops.length ≤ 1000000) (h2 : M.adds.length ≤ 1000000) (hm : Mod M.adds) (hbad : (msgC M).1 ≠ 0) :
    Calls Tryz.prog 29 #[v] w fun r w' => (∃ t a, r = .returned (.tuple #[.string ⟨#[]⟩, .iface t (.pointer (some a))])) ∧ Below w.heap.size w w' := by
  have hs := h
  obtain ⟨p, c, q, d, rfl, -, -⟩ := h
  obtain ⟨K, n, D, L⟩ := M
  simp only at *
  obtain ⟨W, hW⟩ : ∃ W, Hid (w.alloc (.cells #[.string ⟨K.toArray⟩, .int .i64 n, .slice p D.length c, .slice q L.length d] 55) = W) := ⟨_, show _ = _ from rfl⟩
  obtain ⟨x0, x1, x2, x3⟩ := msg_box w (.string ⟨K.toArray⟩) (.int .i64 n) (.slice p D.length c) (.slice q L.length d) (Below.refl _ _)
  obtain ⟨N, hN⟩ : ∃ N, Hid (w.heap.size = N) := ⟨_, show _ = _ from rfl⟩
  obtain ⟨HB⟩ : Nonempty (Hid (Below w.heap.size w W)) := ⟨by rw [← hW.out]; exact below_alloc _ _⟩
  rw [show w.alloc (.cells #[.string ⟨K.toArray⟩, .int .i64 n, .slice p D.length c, .slice q L.length d] 55) = W from hW.out, show w.heap.size = N from hN.out] at x0 x1 x2 x3
  obtain ⟨HC⟩ : Nonempty (Hid (Calls Tryz.prog 61 #[.agg #[.string ⟨K.toArray⟩, .int .i64 n, .slice p D.length c, .slice q L.length d]] W fun r w' => (∃ t a, r = .returned (.iface t (.pointer (some a)))) ∧ Below W.heap.size W w')) := ⟨by
    refine (wCheck_any _ ⟨K, n, D, L⟩ E m W (hE.below HB.out) (hs.below HB.out) h1 h2 hm).mono ?_
    rintro r w' ⟨⟨v', rfl, hv⟩, hb⟩
    rcases isErr_cases hv with ⟨h0, -⟩ | ⟨-, t, a, rfl⟩
    · exact absurd h0 hbad
    · exact ⟨⟨t, a, rfl⟩, hb⟩⟩
  clear hE hs hm hbad
  go_enter Tryz.func29, Tryz.ntmps29
  go_upto_region 1 with fail
  rw [show w.alloc (.cells #[.string ⟨K.toArray⟩, .int .i64 n, .slice p D.length c, .slice q L.length d] 55) = W from hW.out, show w.heap.size = N from hN.out]
  go_wp2_with fail
  refine HC.out.mono ?_
  rintro e w1 ⟨⟨t, a, rfl⟩, hb1⟩
  obtain ⟨HB1⟩ : Nonempty (Hid (Below w.heap.size w w1)) := ⟨HB.out.trans (hb1.mono HB.out.size)⟩
  clear hb1
  go_wp2_with fail
  go_ret2
  exact ⟨⟨t, a, rfl⟩, HB1.out⟩

/-- the message of the closed fact. -/
def exM : Ms := ⟨kNews, 0, [(167772160, 8)], [⟨(184549376, 8), ⟨[1], 100, 0, 0, []⟩, 0⟩]⟩
def exS : List UInt8 := [110, 101, 119, 115, 10, 45, 32, 49, 48, 46, 48, 46, 48, 46, 48, 47, 56, 10, 43, 32, 49, 49, 46, 48, 46, 48, 46, 48, 47, 56, 32, 49, 32, 49, 48, 48, 32, 48, 32, 48, 32, 45, 10]
theorem exM_right : RightM exM := (msgC_zero exM).1 (by decide +kernel)
theorem exM_text : textM exM = exS := by decide +kernel
def opM : Ms := ⟨kOpen, 5, [], []⟩
theorem opM_right : RightM opM := (msgC_zero opM).1 (by decide +kernel)
theorem opM_text : textM opM = [111, 112, 101, 110, 32, 53, 10] := by decide +kernel
theorem read_text_right {M : Ms} (h : RightM M) : runR rg0 0 (linesL (textM M)) = some ⟨M.kind, M.n, M.drops, M.adds, !M.adds.isEmpty⟩ := by
  rw [textM_flat]
  unfold linesT
  rw [linesL_flat _ (lines_not h) (by unfold linesM; simp)]
  exact runR_text h
set_option linter.unusedVariables false in
set_option linter.unusedSimpArgs false in
set_option maxRecDepth 100000 in
set_option maxHeartbeats 4000000 in
theorem wired_any (E : Nat → Addr) (m : Int) (w : World) (hE : WireEnv w E m) :
    Calls Tryz.prog 27 #[] w fun r w' => r = .returned (.bool true) ∧ Below w.heap.size w w' := by
  obtain ⟨HR⟩ : Nonempty (Hid (Calls Tryz.prog 31 #[.string ⟨exS.toArray⟩] w fun r w' => (∃ v, r = .returned (.tuple #[v, .nilIface]) ∧ IsMsg w' v exM) ∧ Below w.heap.size w w')) := ⟨by
    have := read_right (textM exM) exM _ E m w hE (by rw [exM_text]; decide) (read_text_right exM_right) exM_right
    rwa [exM_text] at this⟩
  obtain ⟨HT⟩ : Nonempty (Hid (∀ w', Below w.heap.size w w' → Calls Tryz.prog 29 #[.agg #[.string ⟨#[111, 112, 101, 110]⟩, .int .i64 5, .slice none 0 0, .slice none 0 0]] w' fun r w'' => r = .returned (.tuple #[.string ⟨#[111, 112, 101, 110, 32, 53, 10]⟩, .nilIface]) ∧ Below w'.heap.size w' w'')) := ⟨fun w' hb => by
    have := wText_right (.agg #[.string ⟨#[111, 112, 101, 110]⟩, .int .i64 5, .slice none 0 0, .slice none 0 0]) opM E m w' (hE.below hb) ⟨none, 0, none, 0, rfl, pairs_nil _ _, routes_nil _ _⟩ opM_right
    rwa [opM_text] at this⟩
  clear hE
  unfold exS at HR
  go_enter Tryz.func27, Tryz.ntmps27
  go_wp2_with fail
  refine HR.out.mono ?_
  rintro e w1 ⟨⟨v1, rfl, hv1⟩, hb1⟩
  obtain ⟨p, c, q, d, rfl, -, -⟩ := hv1
  obtain ⟨W1, hW1⟩ : ∃ W, Hid (w1.alloc (.cells #[.string ⟨exM.kind.toArray⟩, .int .i64 exM.n, .slice p exM.drops.length c, .slice q exM.adds.length d] 55) = W) := ⟨_, show _ = _ from rfl⟩
  obtain ⟨N, hN⟩ : ∃ N, Hid (w1.heap.size = N) := ⟨_, show _ = _ from rfl⟩
  obtain ⟨HB1⟩ : Nonempty (Hid (Below w.heap.size w W1 ∧ W1.heap[N]? = some (.cells #[.string ⟨exM.kind.toArray⟩, .int .i64 exM.n, .slice p exM.drops.length c, .slice q exM.adds.length d] 55 (0, 0)))) := ⟨by
    rw [← hW1.out, ← hN.out]
    exact ⟨hb1.trans ((below_alloc _ _).mono hb1.size), Go.heap_alloc_new w1 _⟩⟩
  clear hb1
  go_upto_region 2 with fail
  rw [show w1.alloc (.cells #[.string ⟨exM.kind.toArray⟩, .int .i64 exM.n, .slice p exM.drops.length c, .slice q exM.adds.length d] 55) = W1 from hW1.out, show w1.heap.size = N from hN.out]
  go_wp2_with fail
  refine (HT.out _ HB1.out.1).mono ?_
  rintro e w2 ⟨rfl, hb2⟩
  obtain ⟨HB2⟩ : Nonempty (Hid (Below w.heap.size w w2)) := ⟨HB1.out.1.trans (hb2.mono HB1.out.1.size)⟩
  have hh : w2.heap[N]? = some (.cells #[.string ⟨exM.kind.toArray⟩, .int .i64 exM.n, .slice p 1 c, .slice q 1 d] 55 (0, 0)) := by
    rw [hb2.block N (Array.getElem?_eq_some_iff.1 HB1.out.2).1]
    exact HB1.out.2
  obtain ⟨-, -, x2, x3⟩ := heap_cells4 hh
  clear hb2 hh
  go_wp2_with fail
  go_ret
  exact ⟨rfl, HB2.out⟩
end Go.Proofs.YtbfdgflbflajdaaGreatDoor
