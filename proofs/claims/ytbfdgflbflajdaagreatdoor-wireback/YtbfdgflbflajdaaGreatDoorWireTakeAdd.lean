/-
  Package wire's takeAdd: what it returns, and what the reading holds behind it.
-/
import Derived.Test.YtbfdgflbflajdaaGreatDoorWireTake
import Derived.Test.YtbfdgflbflajdaaGreatDoorAttrRead
namespace Go.Proofs.YtbfdgflbflajdaaGreatDoor
open Go.RowKit

theorem readC_nonneg (l : List UInt8) : 0 ≤ readC l := by
  unfold readC
  split
  · unfold faultA
    repeat' split
    all_goals simp
  · omega
theorem cells5_inj {x0 x1 x2 x3 x4 y0 y1 y2 y3 y4 : Value} {t : TypeId} (h : (some (Obj.cells #[x0, x1, x2, x3, x4] t (0, 0))) = some (Obj.cells #[y0, y1, y2, y3, y4] t (0, 0))) : x2 = y2 ∧ x3 = y3 := by
  simp at h
  exact ⟨h.2.2.1, h.2.2.2.1⟩
theorem cut32_sizes (l : List UInt8) : (Lib.cut l [32]).1.length ≤ l.length ∧ (Lib.cut l [32]).2.1.length ≤ l.length := by
  unfold Lib.cut
  split
  · simp only [List.length_take, List.length_drop]; omega
  · simp
theorem wcut_any (s : List UInt8) (E : Nat → Addr) (m : Int) (w : World) (hE : WireEnv w E m) (hs : s.length ≤ 100000) :
    Calls Tryz.prog 153 #[.string ⟨s.toArray⟩, .string ⟨#[32]⟩] w fun e w' => e = .returned (.tuple #[.string ⟨(Lib.cut s [32]).1.toArray⟩, .string ⟨(Lib.cut s [32]).2.1.toArray⟩, .bool (Lib.cut s [32]).2.2]) ∧ Below w.heap.size w w' := by
  have h1 : (ByteArray.mk s.toArray).data.toList = s := by simp
  have := Tryz.strings_Cut ⟨s.toArray⟩ ⟨#[32]⟩ m w (by simp [ByteArray.size]; omega) hE.at1.max
  rw [h1] at this
  refine this.mono ?_
  rintro e w' ⟨rfl, n, rfl⟩
  exact ⟨rfl, below_drewN (Below.refl _ _) n⟩

set_option linter.unusedVariables false in
set_option linter.unusedSimpArgs false in
set_option maxRecDepth 100000 in
set_option maxHeartbeats 8000000 in
theorem takeAdd_any (g : Rg) (s : List UInt8) (R S : Nat) (E : Nat → Addr) (m : Int) (w : World) (hEV : ∀ w', Fr R S w w' → WireEnv w' E m) (h : RdAt w R S g) (hs : s.length ≤ 100000) (hl : g.drops.length ≤ 1000000 ∧ g.adds.length ≤ 1000000) :
    Calls Tryz.prog 127 #[.pointer (some ⟨R, 0, none⟩), .string ⟨s.toArray⟩] w fun r w' => Took w w' R S (addR g s) r := by
  obtain ⟨i0, hi, hz0, hz1, hz2⟩ := pInfo_parts infoPre
  obtain ⟨i8, hi8, hy0, hy1, hy2⟩ := pInfo_parts infoRoute
  have hsz := cut32_sizes s
  obtain ⟨HC⟩ : Nonempty (Hid (Calls _ _ _ _ _)) := ⟨wcut_any s E m w (hEV w (Fr.refl _ _ _)) hs⟩
  obtain ⟨x, hx⟩ : ∃ x, Hid ((Lib.cut s [32]).1 = x) := ⟨_, show _ = _ from rfl⟩
  obtain ⟨y, hy⟩ : ∃ x, Hid ((Lib.cut s [32]).2.1 = x) := ⟨_, show _ = _ from rfl⟩
  obtain ⟨f, hf⟩ : ∃ x, Hid ((Lib.cut s [32]).2.2 = x) := ⟨_, show _ = _ from rfl⟩
  rw [show (Lib.cut s [32]).1 = x from hx.out, show (Lib.cut s [32]).2.1 = y from hy.out] at HC hsz
  rw [show (Lib.cut s [32]).2.2 = f from hf.out] at HC
  have hxs : (ByteArray.mk x.toArray).size < 4294967281 := by simp [ByteArray.size]; omega
  obtain ⟨HP⟩ : Nonempty (Hid (∀ w', Below w.heap.size w w' → Calls Tryz.prog 152 #[.string ⟨x.toArray⟩] w' fun e w'' => e = .returned (.tuple #[.agg #[.int .i64 (rdP ⟨x.toArray⟩).1, .int .i64 (rdP ⟨x.toArray⟩).2.1], ev E (rdP ⟨x.toArray⟩).2.2]) ∧ Below w'.heap.size w' w'')) := ⟨fun w' hb => by
    have := read_any ⟨x.toArray⟩ (E 0) (E 1) (E 2) m w' (hEV w' (Fr.of_below hb (by obtain ⟨_, _, _, _, _, _, h⟩ := h; exact h))).ip hxs
    rwa [errV_ev E _ (rdP_le _)] at this⟩
  obtain ⟨p0, hp0⟩ : ∃ z, Hid ((rdP ⟨x.toArray⟩).1 = z) := ⟨_, show _ = _ from rfl⟩
  obtain ⟨p1, hp1⟩ : ∃ z, Hid ((rdP ⟨x.toArray⟩).2.1 = z) := ⟨_, show _ = _ from rfl⟩
  obtain ⟨c, hc⟩ : ∃ z, Hid ((rdP ⟨x.toArray⟩).2.2 = z) := ⟨_, show _ = _ from rfl⟩
  rw [show (rdP ⟨x.toArray⟩).1 = p0 from hp0.out, show (rdP ⟨x.toArray⟩).2.1 = p1 from hp1.out, show (rdP ⟨x.toArray⟩).2.2 = c from hc.out] at HP
  have HD : Hid (addR g s = if f = false ∨ c ≠ 0 then none else if readC y ≠ 0 then some { g with drops := withD g.drops (p0, p1), added := true } else some { g with adds := g.adds ++ [⟨(p0, p1), readA y, 0⟩], added := true }) := by
    show _ = _
    unfold addR preR
    rw [hx.out, hy.out, hf.out, hp0.out, hp1.out, hc.out]
  obtain ⟨HAR⟩ : Nonempty (Hid (∀ w', WireEnv w' E m → Calls Tryz.prog 10 #[.string ⟨y.toArray⟩] w' fun r w'' => (∃ v, r = .returned (.tuple #[v, ev E (readC y).toNat]) ∧ AttrF w'' v (readA y) w'.heap.size) ∧ Below w'.heap.size w' w'')) := ⟨fun w' he => read_own y E m w' he.at1 (by omega)⟩
  obtain ⟨HEV⟩ : Nonempty (Hid (∀ w', Fr R S w w' → WireEnv w' E m)) := ⟨hEV⟩
  obtain ⟨HX⟩ : Nonempty (Hid (∀ w', Below w.heap.size w w' → RdAt w' R S g ∧ Fr R S w w')) := ⟨fun w' hb => ⟨h.below hb, Fr.of_below hb (by obtain ⟨_, _, _, _, _, _, h⟩ := h; exact h)⟩⟩
  obtain ⟨HW⟩ : Nonempty (Hid (Below w.heap.size w w)) := ⟨Below.refl _ _⟩
  clear hEV h hx hy hf hp0 hp1 hc hxs hsz
  by_cases hbad : f = false ∨ c ≠ 0
  · have HD2 : Hid (addR g s = none) := by
      show _ = _
      rw [HD.out, if_pos hbad]
    rw [HD2.out]
    clear HD HD2
    cases f with
    | false =>
      go_enter Tryz.func127, Tryz.ntmps127
      go_wp2_with fail
      refine HC.out.mono ?_
      rintro e w1 ⟨rfl, hb1⟩
      obtain ⟨HB1⟩ : Nonempty (Hid (Below w.heap.size w w1)) := ⟨hb1⟩
      clear hb1 hbad
      obtain ⟨u, hu⟩ : ∃ u, Hid (ev E c = u) := ⟨_, show _ = _ from rfl⟩
      rw [show ev E c = u from hu.out] at HP
      go_wp2_with fail
      refine (HP.out _ HB1.out).mono ?_
      rintro e w2 ⟨rfl, hb2⟩
      obtain ⟨HB2⟩ : Nonempty (Hid (Below w.heap.size w (w2.alloc (.cells #[.int .i64 p0, .int .i64 p1] 65)))) := ⟨by
        have h2 := HB1.out.trans (hb2.mono HB1.out.size)
        exact h2.trans ((below_alloc _ _).mono h2.size)⟩
      clear hb2
      go_wp2_with fail
      go_ret
      exact ⟨rfl, (HX.out _ HB2.out).2, fun g' hg => by cases hg⟩
    | true =>
      obtain ⟨c, rfl⟩ : ∃ k, c = k + 1 := ⟨c - 1, by simp at hbad; omega⟩
      simp only [ev] at HP
      obtain ⟨u, hu⟩ : ∃ u, Hid (E c = u) := ⟨_, show _ = _ from rfl⟩
      rw [show E c = u from hu.out] at HP
      go_enter Tryz.func127, Tryz.ntmps127
      go_wp2_with fail
      refine HC.out.mono ?_
      rintro e w1 ⟨rfl, hb1⟩
      obtain ⟨HB1⟩ : Nonempty (Hid (Below w.heap.size w w1)) := ⟨hb1⟩
      clear hb1 hbad
      go_wp2_with fail
      refine (HP.out _ HB1.out).mono ?_
      rintro e w2 ⟨rfl, hb2⟩
      obtain ⟨HB2⟩ : Nonempty (Hid (Below w.heap.size w (w2.alloc (.cells #[.int .i64 p0, .int .i64 p1] 65)))) := ⟨by
        have h2 := HB1.out.trans (hb2.mono HB1.out.size)
        exact h2.trans ((below_alloc _ _).mono h2.size)⟩
      clear hb2
      go_wp2_with fail
      go_ret
      exact ⟨rfl, (HX.out _ HB2.out).2, fun g' hg => by cases hg⟩
  obtain ⟨rfl, rfl⟩ : f = true ∧ c = 0 := by
    simp only [not_or, Bool.not_eq_false, ne_eq, Decidable.not_not] at hbad
    exact hbad
  simp only [ev] at HP
  have HD1 : Hid (addR g s = if readC y ≠ 0 then some { g with drops := withD g.drops (p0, p1), added := true } else some { g with adds := g.adds ++ [⟨(p0, p1), readA y, 0⟩], added := true }) := by
    show _ = _
    rw [HD.out, if_neg hbad]
  clear HD hbad
  have hn0 := readC_nonneg y
  obtain ⟨rc, hrc⟩ : ∃ k, (readC y).toNat = k := ⟨_, rfl⟩
  rw [hrc] at HAR
  obtain ⟨A, hA⟩ : ∃ A, Hid (readA y = A) := ⟨_, show _ = _ from rfl⟩
  rw [show readA y = A from hA.out] at HAR HD1
  by_cases hrd : readC y ≠ 0
  · have HD2 : Hid (addR g s = some { g with drops := withD g.drops (p0, p1), added := true }) := by
      show _ = _
      rw [HD1.out, if_pos hrd]
    rw [HD2.out]
    obtain ⟨rc, rfl⟩ : ∃ k, rc = k + 1 := ⟨rc - 1, by omega⟩
    simp only [ev] at HAR
    obtain ⟨u, hu⟩ : ∃ u, Hid (E rc = u) := ⟨_, show _ = _ from rfl⟩
    rw [show E rc = u from hu.out] at HAR
    obtain ⟨O', HO'⟩ : ∃ O', Hid (withD g.drops (p0, p1) = O') := ⟨_, show _ = _ from rfl⟩
    clear HD1 HD2 hrd hn0 hrc hA
    go_enter Tryz.func127, Tryz.ntmps127
    go_wp2_with fail
    refine HC.out.mono ?_
    rintro e w1 ⟨rfl, hb1⟩
    obtain ⟨HB1⟩ : Nonempty (Hid (Below w.heap.size w w1)) := ⟨hb1⟩
    clear hb1
    go_wp2_with fail
    refine (HP.out _ HB1.out).mono ?_
    rintro e w2 ⟨rfl, hb2⟩
    obtain ⟨N8, hN8⟩ : ∃ b, Hid (w2.heap.size = b) := ⟨_, show _ = _ from rfl⟩
    obtain ⟨W8, hW8⟩ : ∃ b, Hid (w2.alloc (.cells #[.int .i64 p0, .int .i64 p1] 65) = b) := ⟨_, show _ = _ from rfl⟩
    obtain ⟨HB8⟩ : Nonempty (Hid (Below w.heap.size w W8)) := ⟨by
      have h2 := HB1.out.trans (hb2.mono HB1.out.size)
      rw [← hW8.out]
      exact h2.trans ((below_alloc _ _).mono h2.size)⟩
    obtain ⟨HK8⟩ : Nonempty (Hid ((fun w' : World => w'.cell? ⟨N8, 0, none⟩ = some (.int .i64 p0) ∧ w'.cell? ⟨N8, 1, none⟩ = some (.int .i64 p1)) W8 ∧ N8 < W8.heap.size ∧ N8 ≠ R ∧ S ≤ N8 ∧ W8.heap[N8]? = some (.cells #[.int .i64 p0, .int .i64 p1] 65 (0, 0)))) := ⟨by
      have h2 := HB1.out.trans (hb2.mono HB1.out.size)
      obtain ⟨d, a, g1, g2, g3, g4, g5⟩ := (HX.out _ HW.out).1
      have := h2.size
      refine ⟨⟨by rw [← hW8.out, ← hN8.out]; simp, by rw [← hW8.out, ← hN8.out]; simp⟩, by rw [← hW8.out, ← hN8.out]; simp, by rw [← hN8.out]; omega, by rw [← hN8.out]; omega, by rw [← hW8.out, ← hN8.out]; exact Go.heap_alloc_new w2 _⟩⟩
    obtain ⟨HN2⟩ : Nonempty (Hid (w.heap.size ≤ N8)) := ⟨by rw [← hN8.out]; exact (HB1.out.trans (hb2.mono HB1.out.size)).size⟩
    clear hb2
    go_upto_region 5 with fail
    rw [show w2.alloc (.cells #[.int .i64 p0, .int .i64 p1] 65) = W8 from hW8.out, show w2.heap.size = N8 from hN8.out]
    obtain ⟨HF5⟩ : Nonempty (Hid (RdAt (W8.setCell ⟨R, 4, none⟩ (.bool true)) R S { g with added := true } ∧ Fr R S w (W8.setCell ⟨R, 4, none⟩ (.bool true)))) := ⟨by
      obtain ⟨h1, h2⟩ := rdAt_flag (HX.out _ HB8.out).1
      exact ⟨h1, (HX.out _ HB8.out).2.trans h2⟩⟩
    obtain ⟨W5, hW5⟩ : ∃ b, Hid (W8.setCell ⟨R, 4, none⟩ (.bool true) = b) := ⟨_, show _ = _ from rfl⟩
    rw [show W8.setCell ⟨R, 4, none⟩ (.bool true) = W5 from hW5.out] at HF5
    have hz5 : W8.cell? ⟨R, 4, none⟩ = some (.bool g.added) ∧ W8.frozen? ⟨R, 4, none⟩ = false := by
      obtain ⟨d, a, g1, -⟩ := (HX.out _ HB8.out).1
      obtain ⟨-, -, -, -, x4, xf⟩ := heap_cells5 g1
      exact ⟨x4, xf 4⟩
    obtain ⟨hz5a, hz5b⟩ := hz5
    obtain ⟨HK5⟩ : Nonempty (Hid ((fun w' : World => w'.cell? ⟨N8, 0, none⟩ = some (.int .i64 p0) ∧ w'.cell? ⟨N8, 1, none⟩ = some (.int .i64 p1)) W5 ∧ N8 < W5.heap.size)) := ⟨by
      obtain ⟨⟨a0, a1⟩, a2, a3, -⟩ := HK8.out
      rw [← hW5.out]
      refine ⟨⟨?_, ?_⟩, by simpa [World.setCell] using a2⟩
      · rw [World.cell?_of_block (w := W8) (Below.heap_setCell _ _ _ _ (by simpa using a3))]; exact a0
      · rw [World.cell?_of_block (w := W8) (Below.heap_setCell _ _ _ _ (by simpa using a3))]; exact a1⟩
    obtain ⟨HA5⟩ : Nonempty (Hid (Calls _ _ _ _ _)) := ⟨HAR.out W5 (HEV.out _ HF5.out.2)⟩
    go_upto_region 6 with fail
    rw [show W8.setCell ⟨R, 4, none⟩ (.bool true) = W5 from hW5.out]
    clear hz5a hz5b
    go_wp2_with fail
    refine HA5.out.mono ?_
    rintro e w3 ⟨⟨v3, rfl, hv3⟩, hb3⟩
    obtain ⟨q1, c1, q2, c2, rfl, j1, j2, -, -, l1, l2⟩ := hv3
    obtain ⟨N10, hN10⟩ : ∃ b, Hid (w3.heap.size = b) := ⟨_, show _ = _ from rfl⟩
    obtain ⟨W9, hW9⟩ : ∃ b, Hid (w3.alloc (.cells #[.slice q1 A.path.length c1, .int .i64 A.pref, .int .i64 A.med, .int .i64 A.org, .slice q2 A.tags.length c2] 24) = b) := ⟨_, show _ = _ from rfl⟩
    obtain ⟨HB9⟩ : Nonempty (Hid (Below W5.heap.size W5 W9)) := ⟨by rw [← hW9.out]; exact hb3.trans ((below_alloc _ _).mono hb3.size)⟩
    obtain ⟨HF9⟩ : Nonempty (Hid (RdAt W9.drew R S { g with added := true } ∧ Fr R S w W9.drew)) := ⟨⟨HF5.out.1.below HB9.out.drew, HF5.out.2.trans (Fr.of_below HB9.out.drew (by obtain ⟨_, _, _, _, _, _, h⟩ := HF5.out.1; exact h))⟩⟩
    obtain ⟨HKC⟩ : Nonempty (Hid (∀ w', Below W9.heap.size W9 w' → (fun w' : World => (w'.cell? ⟨N8, 0, none⟩ = some (.int .i64 p0) ∧ w'.cell? ⟨N8, 1, none⟩ = some (.int .i64 p1)) ∧ w'.cell? ⟨N10, 0, none⟩ = some (.slice q1 A.path.length c1) ∧ w'.cell? ⟨N10, 1, none⟩ = some (.int .i64 A.pref) ∧ w'.cell? ⟨N10, 2, none⟩ = some (.int .i64 A.med) ∧ w'.cell? ⟨N10, 3, none⟩ = some (.int .i64 A.org) ∧ w'.cell? ⟨N10, 4, none⟩ = some (.slice q2 A.tags.length c2)) w')) := ⟨fun w' hb => by
      obtain ⟨⟨a0, a1⟩, -⟩ := HK5.out
      refine ⟨⟨cell_kept hb (cell_kept HB9.out a0), cell_kept hb (cell_kept HB9.out a1)⟩, ?_, ?_, ?_, ?_, ?_⟩ <;> refine cell_kept hb ?_ <;> rw [← hW9.out, ← hN10.out, World.cell?_alloc_at _ _ _ _ rfl] <;> rfl⟩
    obtain ⟨HNS⟩ : Nonempty (Hid (N8 < W9.drew.heap.size ∧ N10 < W9.drew.heap.size ∧ N8 ≠ R ∧ N10 ≠ R ∧ S ≤ N8 ∧ W5.heap.size ≤ N10 ∧ W9.drew.heap[N8]? = some (.cells #[.int .i64 p0, .int .i64 p1] 65 (0, 0)) ∧ W9.drew.heap[N10]? = some (.cells #[.slice q1 A.path.length c1, .int .i64 A.pref, .int .i64 A.med, .int .i64 A.org, .slice q2 A.tags.length c2] 24 (0, 0)))) := ⟨by
      obtain ⟨-, b0, b1, b2, b3⟩ := HK8.out
      obtain ⟨-, b4⟩ := HK5.out
      have e1 := HB9.out.size
      have e2 := hb3.size
      rw [show w3.heap.size = N10 from hN10.out] at e2
      obtain ⟨_, _, _, _, _, hRS, _⟩ := HF5.out.1
      have e3 : N10 < W9.heap.size := by rw [← hW9.out, ← hN10.out]; simp
      refine ⟨Nat.lt_of_lt_of_le b4 e1, e3, b1, by omega, b2, e2, ?_, by rw [← hW9.out, ← hN10.out]; exact Go.heap_alloc_new w3 _⟩
      show W9.heap[N8]? = _
      rw [HB9.out.block N8 b4, ← hW5.out, Below.heap_setCell _ _ _ _ (by simpa using b1)]
      exact b3⟩
    obtain ⟨HLI⟩ : Nonempty (Hid (Ints W9.drew q1 A.path ∧ Ints W9.drew q2 A.tags ∧ (∀ b o, q1 = some ⟨b, o, none⟩ → W5.heap.size ≤ b) ∧ (∀ b o, q2 = some ⟨b, o, none⟩ → W5.heap.size ≤ b))) := ⟨by
      have hbd : Below w3.heap.size w3 W9.drew := by rw [← hW9.out]; exact (below_alloc _ _).drew
      exact ⟨j1.below hbd, j2.below hbd, l1, l2⟩⟩
    clear hb3 j1 j2 l1 l2
    obtain ⟨HN8⟩ : Nonempty (Hid (∀ d, (∃ x0 x1 x3 x4, W9.drew.heap[R]? = some (.cells #[x0, x1, d, x3, x4] 100 (0, 0))) → d.ownBlock ≠ some N8)) := ⟨fun d ⟨x0, x1, x3, x4, hd⟩ e => by
      obtain ⟨dd, aa, f1, f2, f3, f4, f5⟩ := (HX.out _ HW.out).1
      have e1 : W9.drew.heap[R]? = (W8.setCell ⟨R, 4, none⟩ (.bool true)).heap[R]? := by
        rw [show W8.setCell ⟨R, 4, none⟩ (.bool true) = W5 from hW5.out]
        exact HB9.out.block R (by have := HK5.out.2; have := HK8.out.2.2.2.1; omega)
      have e2 : W8.heap[R]? = some (.cells #[.string ⟨g.kind.toArray⟩, .int .i64 g.n, dd, aa, .bool g.added] 100 (0, 0)) := by rw [HB8.out.block R (by omega)]; exact f1
      have e3 := heap_setCell_same W8 R 4 _ _ (.bool true) e2
      rw [← e1, hd] at e3
      have e4 : d = dd := (cells5_inj e3).1
      rw [e4] at e
      have h5 := (f2.lt N8 e).2
      have h6 := HN2.out
      omega⟩
    go_upto_region 8 with fail
    rw [show w3.alloc (.cells #[.slice q1 A.path.length c1, .int .i64 A.pref, .int .i64 A.med, .int .i64 A.org, .slice q2 A.tags.length c2] 24) = W9 from hW9.out, show w3.heap.size = N10 from hN10.out]
    obtain ⟨d, a, g1, g2, g3, g4, g5⟩ := HF9.out.1
    obtain ⟨-, -, z2, -, -, -⟩ := heap_cells5 g1
    obtain ⟨HNE⟩ : Nonempty (Hid (d.ownBlock ≠ some N8 ∧ True)) := ⟨⟨fun e => by
      exact HN8.out d ⟨_, _, _, _, g1⟩ e, trivial⟩⟩
    obtain ⟨HWD⟩ : Nonempty (Hid (Calls Tryz.prog 154 #[d, .agg #[.int .i64 p0, .int .i64 p1]] W9.drew fun r w' => ∃ v', r = .returned v' ∧ w'.ownsRow S 65 2 v' O'.length (flat2 O') ∧ Grew W9.drew w' d v')) := ⟨by
      have := withDrop_any g.drops p0 p1 d S E m W9.drew (HEV.out _ HF9.out.2) g2 hl.1 g5
      rw [show withD g.drops (p0, p1) = O' from HO'.out] at this
      exact this⟩
    refine wp_region_held_drew (S := (fun w' : World => w'.cell? ⟨N8, 0, none⟩ = some (.int .i64 p0) ∧ w'.cell? ⟨N8, 1, none⟩ = some (.int .i64 p1))) (by kernel_rfl) ?_ (fun hHeld => ?_)
    · exact (HKC.out _ (Below.refl _ _).drew).1
    refine wpAnyH_take (i := 0) (v := ?_) rfl (by kernel_rfl) (by kernel_rfl) (by kernel_rfl) (fun _ _ _ h => h) (Or.inl ⟨by rfl, ?_⟩) (by assumption) ?_
    rotate_left
    · (intro w hSw; (try dsimp only at hSw); go_simp; try (with_reducible rfl))
    try simp only [Act.put, List.setIfInBounds_toArray, List.set_cons_zero, List.set_cons_succ, List.getElem_toArray, List.getElem_cons_zero, List.getElem_cons_succ]
    refine wpAnyH_take (i := 1) (v := ?_) rfl (by kernel_rfl) (by kernel_rfl) (by kernel_rfl) (fun _ _ _ h => h) (Or.inl ⟨by rfl, ?_⟩) (by assumption) ?_
    rotate_left
    · (intro w hSw; (try dsimp only at hSw); go_simp; try (with_reducible rfl))
    try simp only [Act.put, List.setIfInBounds_toArray, List.set_cons_zero, List.set_cons_succ, List.getElem_toArray, List.getElem_cons_zero, List.getElem_cons_succ]
    refine wpAnyH_take (i := 2) (v := ?_) rfl (by kernel_rfl) (by kernel_rfl) (by kernel_rfl) (fun _ _ _ h => h) (Or.inl ⟨by rfl, ?_⟩) (by assumption) ?_
    rotate_left
    · (intro w hSw; (try dsimp only at hSw); go_simp; try (with_reducible rfl))
    try simp only [Act.put, List.setIfInBounds_toArray, List.set_cons_zero, List.set_cons_succ, List.getElem_toArray, List.getElem_cons_zero, List.getElem_cons_succ]
    refine wpAnyH_take (i := 3) (v := ?_) rfl (by kernel_rfl) (by kernel_rfl) (by kernel_rfl) (fun _ _ _ h => h) (Or.inl ⟨by rfl, ?_⟩) (by assumption) ?_
    rotate_left
    · (intro w hSw; (try dsimp only at hSw); go_simp; try (with_reducible rfl))
    try simp only [Act.put, List.setIfInBounds_toArray, List.set_cons_zero, List.set_cons_succ, List.getElem_toArray, List.getElem_cons_zero, List.getElem_cons_succ]
    refine wpAnyH_take (i := 4) (v := ?_) rfl (by kernel_rfl) (by kernel_rfl) (by kernel_rfl) (fun _ _ _ h => h) (Or.inl ⟨by rfl, ?_⟩) (by assumption) ?_
    rotate_left
    · (intro w hSw; (try dsimp only at hSw); go_simp; try (with_reducible rfl))
    try simp only [Act.put, List.setIfInBounds_toArray, List.set_cons_zero, List.set_cons_succ, List.getElem_toArray, List.getElem_cons_zero, List.getElem_cons_succ]
    refine wpAnyH_take (i := 6) (v := ?_) rfl (by kernel_rfl) (by kernel_rfl) (by kernel_rfl) (fun _ _ _ h => h) (Or.inl ⟨by rfl, ?_⟩) (by assumption) ?_
    rotate_left
    · (intro w hSw; (try dsimp only at hSw); go_simp; try (with_reducible rfl))
    try simp only [Act.put, List.setIfInBounds_toArray, List.set_cons_zero, List.set_cons_succ, List.getElem_toArray, List.getElem_cons_zero, List.getElem_cons_succ]
    refine wpAnyH_ready (rs := [5]) (by kernel_rfl) (by simp) ?_
    refine AllReadyH.cons rfl (fun K hK => ?_) AllReadyH.nil
    go_simp
    refine hK.out _ _ ?_ (fun hHeld => ?_)
    · exact (HKC.out _ (Below.refl _ _).drew).1
    clear hK K
    try simp only [Act.put, List.setIfInBounds_toArray, List.set_cons_zero, List.set_cons_succ, List.getElem_toArray, List.getElem_cons_zero, List.getElem_cons_succ]
    refine wpAnyH_ready (rs := [7]) (by kernel_rfl) (by simp) ?_
    refine AllReadyH.cons rfl (fun K hK => ?_) AllReadyH.nil
    go_simp
    refine HWD.out.mono ?_
    rintro e w6 ⟨v', rfl, hown6, hgr6⟩
    obtain ⟨q6, c6, rfl, -, -, -⟩ := own_pairs hown6
    obtain ⟨HF⟩ : Nonempty (Hid (RdAt (w6.setCell ⟨R, 2, none⟩ (.slice q6 O'.length c6)) R S { g with drops := O', added := true } ∧ Fr R S W9.drew (w6.setCell ⟨R, 2, none⟩ (.slice q6 O'.length c6)))) := ⟨rdAt_drops (g := { g with added := true }) g1 g2 g3 g4 g5 hgr6 O' hown6⟩
    have e6 := hgr6.block R (by have := HNS.out.1; have := HNS.out.2.2.2.2.1; omega) (fun e => by have := (g2.lt R e.symm).1; omega)
    rw [g1] at e6
    obtain ⟨-, -, y2, -, -, yf⟩ := heap_cells5 e6
    have yf2 := yf 2
    have e9 := hgr6.block N8 HNS.out.1 (fun e => HNE.out.1 e.symm)
    obtain ⟨HK6⟩ : Nonempty (Hid ((fun w' : World => w'.cell? ⟨N8, 0, none⟩ = some (.int .i64 p0) ∧ w'.cell? ⟨N8, 1, none⟩ = some (.int .i64 p1)) w6 ∧ (fun w' : World => w'.cell? ⟨N8, 0, none⟩ = some (.int .i64 p0) ∧ w'.cell? ⟨N8, 1, none⟩ = some (.int .i64 p1)) (w6.setCell ⟨R, 2, none⟩ (.slice q6 O'.length c6)))) := ⟨by
      have k6 : (fun w' : World => w'.cell? ⟨N8, 0, none⟩ = some (.int .i64 p0) ∧ w'.cell? ⟨N8, 1, none⟩ = some (.int .i64 p1)) w6 := by
        have k0 := (HKC.out _ (Below.refl _ _).drew).1
        refine ⟨?_, ?_⟩
        · rw [World.cell?_of_block (w := W9.drew) e9]; exact k0.1
        · rw [World.cell?_of_block (w := W9.drew) e9]; exact k0.2
      refine ⟨k6, ?_, ?_⟩
      · rw [World.cell?_of_block (w := w6) (Below.heap_setCell _ _ _ _ (by simpa using HNS.out.2.2.1))]; exact k6.1
      · rw [World.cell?_of_block (w := w6) (Below.heap_setCell _ _ _ _ (by simpa using HNS.out.2.2.1))]; exact k6.2⟩
    clear hHeld e6 e9 yf hown6 hgr6 g1 g2 g3
    refine hK.out _ _ ?_ (fun hHeld => ?_)
    · exact HK6.out.1
    clear hK K
    try simp only [Act.put, List.setIfInBounds_toArray, List.set_cons_zero, List.set_cons_succ, List.getElem_toArray, List.getElem_cons_zero, List.getElem_cons_succ]
    refine wpAnyH_take (i := 8) (v := ?_) rfl (by kernel_rfl) (by kernel_rfl) (by kernel_rfl) (fun _ _ _ h => h) (Or.inl ⟨by rfl, ?_⟩) (by assumption) ?_
    rotate_left
    · (intro w hSw; (try dsimp only at hSw); go_simp; try (with_reducible rfl))
    try simp only [Act.put, List.setIfInBounds_toArray, List.set_cons_zero, List.set_cons_succ, List.getElem_toArray, List.getElem_cons_zero, List.getElem_cons_succ]
    refine wpAnyH_take (i := 9) (v := ?_) rfl (by kernel_rfl) (by kernel_rfl) (by kernel_rfl) (fun _ _ _ h => h) (Or.inl ⟨by rfl, ?_⟩) (by assumption) ?_
    rotate_left
    · (intro w hSw; (try dsimp only at hSw); go_simp; try (with_reducible rfl))
    try simp only [Act.put, List.setIfInBounds_toArray, List.set_cons_zero, List.set_cons_succ, List.getElem_toArray, List.getElem_cons_zero, List.getElem_cons_succ]
    refine wpAnyH_take (i := 10) (v := ?_) rfl (by kernel_rfl) (by kernel_rfl) (by kernel_rfl) (fun _ _ _ h => h) (Or.inl ⟨by rfl, ?_⟩) (by assumption) ?_
    rotate_left
    · (intro w hSw; (try dsimp only at hSw); go_simp; try (with_reducible rfl))
    try simp only [Act.put, List.setIfInBounds_toArray, List.set_cons_zero, List.set_cons_succ, List.getElem_toArray, List.getElem_cons_zero, List.getElem_cons_succ]
    refine wpAnyH_ready (rs := [11]) (by kernel_rfl) (by simp) ?_
    refine AllReadyH.cons rfl (fun K hK => ?_) AllReadyH.nil
    go_simp
    refine hK.out _ _ ?_ (fun hHeld => ?_)
    · exact HK6.out.2
    clear hK K
    try simp only [Act.put, List.setIfInBounds_toArray, List.set_cons_zero, List.set_cons_succ, List.getElem_toArray, List.getElem_cons_zero, List.getElem_cons_succ]
    refine wpAnyH_done (by kernel_rfl) ?_ _
    clear hHeld
    go_wp2_with fail
    go_ret
    exact ⟨rfl, HF9.out.2.trans HF.out.2, fun g' hg => by
      simp only [Option.some.injEq] at hg
      subst hg
      rw [show withD g.drops (p0, p1) = O' from HO'.out]
      exact HF.out.1⟩
  · have HD2 : Hid (addR g s = some { g with adds := g.adds ++ [⟨(p0, p1), A, 0⟩], added := true }) := by
      show _ = _
      rw [HD1.out, if_neg hrd]
    rw [HD2.out]
    obtain rfl : rc = 0 := by omega
    simp only [ev] at HAR
    obtain ⟨O', HO'⟩ : ∃ O', Hid (g.adds ++ [(⟨(p0, p1), A, 0⟩ : Ro)] = O') := ⟨_, show _ = _ from rfl⟩
    clear HD1 HD2 hrd hn0 hrc hA
    go_enter Tryz.func127, Tryz.ntmps127
    go_wp2_with fail
    refine HC.out.mono ?_
    rintro e w1 ⟨rfl, hb1⟩
    obtain ⟨HB1⟩ : Nonempty (Hid (Below w.heap.size w w1)) := ⟨hb1⟩
    clear hb1
    go_wp2_with fail
    refine (HP.out _ HB1.out).mono ?_
    rintro e w2 ⟨rfl, hb2⟩
    obtain ⟨N8, hN8⟩ : ∃ b, Hid (w2.heap.size = b) := ⟨_, show _ = _ from rfl⟩
    obtain ⟨W8, hW8⟩ : ∃ b, Hid (w2.alloc (.cells #[.int .i64 p0, .int .i64 p1] 65) = b) := ⟨_, show _ = _ from rfl⟩
    obtain ⟨HB8⟩ : Nonempty (Hid (Below w.heap.size w W8)) := ⟨by
      have h2 := HB1.out.trans (hb2.mono HB1.out.size)
      rw [← hW8.out]
      exact h2.trans ((below_alloc _ _).mono h2.size)⟩
    obtain ⟨HK8⟩ : Nonempty (Hid ((fun w' : World => w'.cell? ⟨N8, 0, none⟩ = some (.int .i64 p0) ∧ w'.cell? ⟨N8, 1, none⟩ = some (.int .i64 p1)) W8 ∧ N8 < W8.heap.size ∧ N8 ≠ R ∧ S ≤ N8 ∧ W8.heap[N8]? = some (.cells #[.int .i64 p0, .int .i64 p1] 65 (0, 0)))) := ⟨by
      have h2 := HB1.out.trans (hb2.mono HB1.out.size)
      obtain ⟨d, a, g1, g2, g3, g4, g5⟩ := (HX.out _ HW.out).1
      have := h2.size
      refine ⟨⟨by rw [← hW8.out, ← hN8.out]; simp, by rw [← hW8.out, ← hN8.out]; simp⟩, by rw [← hW8.out, ← hN8.out]; simp, by rw [← hN8.out]; omega, by rw [← hN8.out]; omega, by rw [← hW8.out, ← hN8.out]; exact Go.heap_alloc_new w2 _⟩⟩
    obtain ⟨HN2⟩ : Nonempty (Hid (w.heap.size ≤ N8)) := ⟨by rw [← hN8.out]; exact (HB1.out.trans (hb2.mono HB1.out.size)).size⟩
    clear hb2
    go_upto_region 5 with fail
    rw [show w2.alloc (.cells #[.int .i64 p0, .int .i64 p1] 65) = W8 from hW8.out, show w2.heap.size = N8 from hN8.out]
    obtain ⟨HF5⟩ : Nonempty (Hid (RdAt (W8.setCell ⟨R, 4, none⟩ (.bool true)) R S { g with added := true } ∧ Fr R S w (W8.setCell ⟨R, 4, none⟩ (.bool true)))) := ⟨by
      obtain ⟨h1, h2⟩ := rdAt_flag (HX.out _ HB8.out).1
      exact ⟨h1, (HX.out _ HB8.out).2.trans h2⟩⟩
    obtain ⟨W5, hW5⟩ : ∃ b, Hid (W8.setCell ⟨R, 4, none⟩ (.bool true) = b) := ⟨_, show _ = _ from rfl⟩
    rw [show W8.setCell ⟨R, 4, none⟩ (.bool true) = W5 from hW5.out] at HF5
    have hz5 : W8.cell? ⟨R, 4, none⟩ = some (.bool g.added) ∧ W8.frozen? ⟨R, 4, none⟩ = false := by
      obtain ⟨d, a, g1, -⟩ := (HX.out _ HB8.out).1
      obtain ⟨-, -, -, -, x4, xf⟩ := heap_cells5 g1
      exact ⟨x4, xf 4⟩
    obtain ⟨hz5a, hz5b⟩ := hz5
    obtain ⟨HK5⟩ : Nonempty (Hid ((fun w' : World => w'.cell? ⟨N8, 0, none⟩ = some (.int .i64 p0) ∧ w'.cell? ⟨N8, 1, none⟩ = some (.int .i64 p1)) W5 ∧ N8 < W5.heap.size)) := ⟨by
      obtain ⟨⟨a0, a1⟩, a2, a3, -⟩ := HK8.out
      rw [← hW5.out]
      refine ⟨⟨?_, ?_⟩, by simpa [World.setCell] using a2⟩
      · rw [World.cell?_of_block (w := W8) (Below.heap_setCell _ _ _ _ (by simpa using a3))]; exact a0
      · rw [World.cell?_of_block (w := W8) (Below.heap_setCell _ _ _ _ (by simpa using a3))]; exact a1⟩
    obtain ⟨HA5⟩ : Nonempty (Hid (Calls _ _ _ _ _)) := ⟨HAR.out W5 (HEV.out _ HF5.out.2)⟩
    go_upto_region 6 with fail
    rw [show W8.setCell ⟨R, 4, none⟩ (.bool true) = W5 from hW5.out]
    clear hz5a hz5b
    go_wp2_with fail
    refine HA5.out.mono ?_
    rintro e w3 ⟨⟨v3, rfl, hv3⟩, hb3⟩
    obtain ⟨q1, c1, q2, c2, rfl, j1, j2, -, -, l1, l2⟩ := hv3
    obtain ⟨N10, hN10⟩ : ∃ b, Hid (w3.heap.size = b) := ⟨_, show _ = _ from rfl⟩
    obtain ⟨W9, hW9⟩ : ∃ b, Hid (w3.alloc (.cells #[.slice q1 A.path.length c1, .int .i64 A.pref, .int .i64 A.med, .int .i64 A.org, .slice q2 A.tags.length c2] 24) = b) := ⟨_, show _ = _ from rfl⟩
    obtain ⟨HB9⟩ : Nonempty (Hid (Below W5.heap.size W5 W9)) := ⟨by rw [← hW9.out]; exact hb3.trans ((below_alloc _ _).mono hb3.size)⟩
    obtain ⟨HF9⟩ : Nonempty (Hid (RdAt W9.drew R S { g with added := true } ∧ Fr R S w W9.drew)) := ⟨⟨HF5.out.1.below HB9.out.drew, HF5.out.2.trans (Fr.of_below HB9.out.drew (by obtain ⟨_, _, _, _, _, _, h⟩ := HF5.out.1; exact h))⟩⟩
    obtain ⟨HKC⟩ : Nonempty (Hid (∀ w', Below W9.heap.size W9 w' → (fun w' : World => (w'.cell? ⟨N8, 0, none⟩ = some (.int .i64 p0) ∧ w'.cell? ⟨N8, 1, none⟩ = some (.int .i64 p1)) ∧ w'.cell? ⟨N10, 0, none⟩ = some (.slice q1 A.path.length c1) ∧ w'.cell? ⟨N10, 1, none⟩ = some (.int .i64 A.pref) ∧ w'.cell? ⟨N10, 2, none⟩ = some (.int .i64 A.med) ∧ w'.cell? ⟨N10, 3, none⟩ = some (.int .i64 A.org) ∧ w'.cell? ⟨N10, 4, none⟩ = some (.slice q2 A.tags.length c2)) w')) := ⟨fun w' hb => by
      obtain ⟨⟨a0, a1⟩, -⟩ := HK5.out
      refine ⟨⟨cell_kept hb (cell_kept HB9.out a0), cell_kept hb (cell_kept HB9.out a1)⟩, ?_, ?_, ?_, ?_, ?_⟩ <;> refine cell_kept hb ?_ <;> rw [← hW9.out, ← hN10.out, World.cell?_alloc_at _ _ _ _ rfl] <;> rfl⟩
    obtain ⟨HNS⟩ : Nonempty (Hid (N8 < W9.drew.heap.size ∧ N10 < W9.drew.heap.size ∧ N8 ≠ R ∧ N10 ≠ R ∧ S ≤ N8 ∧ W5.heap.size ≤ N10 ∧ W9.drew.heap[N8]? = some (.cells #[.int .i64 p0, .int .i64 p1] 65 (0, 0)) ∧ W9.drew.heap[N10]? = some (.cells #[.slice q1 A.path.length c1, .int .i64 A.pref, .int .i64 A.med, .int .i64 A.org, .slice q2 A.tags.length c2] 24 (0, 0)))) := ⟨by
      obtain ⟨-, b0, b1, b2, b3⟩ := HK8.out
      obtain ⟨-, b4⟩ := HK5.out
      have e1 := HB9.out.size
      have e2 := hb3.size
      rw [show w3.heap.size = N10 from hN10.out] at e2
      obtain ⟨_, _, _, _, _, hRS, _⟩ := HF5.out.1
      have e3 : N10 < W9.heap.size := by rw [← hW9.out, ← hN10.out]; simp
      refine ⟨Nat.lt_of_lt_of_le b4 e1, e3, b1, by omega, b2, e2, ?_, by rw [← hW9.out, ← hN10.out]; exact Go.heap_alloc_new w3 _⟩
      show W9.heap[N8]? = _
      rw [HB9.out.block N8 b4, ← hW5.out, Below.heap_setCell _ _ _ _ (by simpa using b1)]
      exact b3⟩
    obtain ⟨HLI⟩ : Nonempty (Hid (Ints W9.drew q1 A.path ∧ Ints W9.drew q2 A.tags ∧ (∀ b o, q1 = some ⟨b, o, none⟩ → W5.heap.size ≤ b) ∧ (∀ b o, q2 = some ⟨b, o, none⟩ → W5.heap.size ≤ b))) := ⟨by
      have hbd : Below w3.heap.size w3 W9.drew := by rw [← hW9.out]; exact (below_alloc _ _).drew
      exact ⟨j1.below hbd, j2.below hbd, l1, l2⟩⟩
    clear hb3 j1 j2 l1 l2
    go_upto_region 10 with fail
    rw [show w3.alloc (.cells #[.slice q1 A.path.length c1, .int .i64 A.pref, .int .i64 A.med, .int .i64 A.org, .slice q2 A.tags.length c2] 24) = W9 from hW9.out, show w3.heap.size = N10 from hN10.out]
    obtain ⟨d, a, g1, g2, g3, g4, g5⟩ := HF9.out.1
    obtain ⟨-, -, -, z3, -, -⟩ := heap_cells5 g1
    obtain ⟨HAO⟩ : Nonempty (Hid (a.ownBlock ≠ some R ∧ a.ownBlock ≠ some N8 ∧ a.ownBlock ≠ some N10)) := ⟨by
      obtain ⟨na, xa, hao⟩ := g3.own
      refine ⟨fun e => by have := (hao.lt R e).1; omega, fun e => ?_, fun e => ?_⟩
      · obtain ⟨cc, fz, hcc⟩ := ownsRow_kind hao N8 e
        rw [HNS.out.2.2.2.2.2.2.1] at hcc
        simp only [Option.some.injEq, Obj.cells.injEq] at hcc
        exact absurd hcc.2.1 (by decide)
      · obtain ⟨cc, fz, hcc⟩ := ownsRow_kind hao N10 e
        rw [HNS.out.2.2.2.2.2.2.2] at hcc
        simp only [Option.some.injEq, Obj.cells.injEq] at hcc
        exact absurd hcc.2.1 (by decide)⟩
    obtain ⟨HIO⟩ : Nonempty (Hid (IntsOff W9.drew q1 A.path (fun b => (b < S ∨ d.ownBlock = some b) ∨ a.ownBlock = some b) ∧ IntsOff W9.drew q2 A.tags (fun b => (b < S ∨ d.ownBlock = some b) ∨ a.ownBlock = some b))) := ⟨by
      obtain ⟨d5, a5, k1, k2, k3, k4, k5⟩ := HF5.out.1
      obtain ⟨na, xa, kao⟩ := k3.own
      have er : W9.drew.heap[R]? = W5.heap[R]? := HB9.out.block R (by omega)
      rw [g1, k1] at er
      have ed : d = d5 := (cells5_inj er).1
      have ea : a = a5 := (cells5_inj er).2
      have hno : ∀ b, W5.heap.size ≤ b → ¬ ((b < S ∨ d.ownBlock = some b) ∨ a.ownBlock = some b) := fun b hb hf => by
        rcases hf with (h | h) | h
        · omega
        · rw [ed] at h; have := (k2.lt b h).2; omega
        · rw [ea] at h; have := (kao.lt b h).2; omega
      obtain ⟨i1, i2, i3, i4⟩ := HLI.out
      exact ⟨⟨i1, fun b o e _ => hno b (i3 b o e)⟩, ⟨i2, fun b o e _ => hno b (i4 b o e)⟩⟩⟩
    refine wp_region_held_drew (S := (fun w' : World => (w'.cell? ⟨N8, 0, none⟩ = some (.int .i64 p0) ∧ w'.cell? ⟨N8, 1, none⟩ = some (.int .i64 p1)) ∧ w'.cell? ⟨N10, 0, none⟩ = some (.slice q1 A.path.length c1) ∧ w'.cell? ⟨N10, 1, none⟩ = some (.int .i64 A.pref) ∧ w'.cell? ⟨N10, 2, none⟩ = some (.int .i64 A.med) ∧ w'.cell? ⟨N10, 3, none⟩ = some (.int .i64 A.org) ∧ w'.cell? ⟨N10, 4, none⟩ = some (.slice q2 A.tags.length c2))) (by kernel_rfl) ?_ (fun hHeld => ?_)
    · exact HKC.out _ (Below.refl _ _).drew
    refine wpAnyH_take (i := 0) (v := ?_) rfl (by kernel_rfl) (by kernel_rfl) (by kernel_rfl) (fun _ _ _ h => h) (Or.inl ⟨by rfl, ?_⟩) (by assumption) ?_
    rotate_left
    · (intro w hSw; (try dsimp only at hSw); go_simp; try (with_reducible rfl))
    try simp only [Act.put, List.setIfInBounds_toArray, List.set_cons_zero, List.set_cons_succ, List.getElem_toArray, List.getElem_cons_zero, List.getElem_cons_succ]
    refine wpAnyH_take (i := 1) (v := ?_) rfl (by kernel_rfl) (by kernel_rfl) (by kernel_rfl) (fun _ _ _ h => h) (Or.inl ⟨by rfl, ?_⟩) (by assumption) ?_
    rotate_left
    · (intro w hSw; (try dsimp only at hSw); go_simp; try (with_reducible rfl))
    try simp only [Act.put, List.setIfInBounds_toArray, List.set_cons_zero, List.set_cons_succ, List.getElem_toArray, List.getElem_cons_zero, List.getElem_cons_succ]
    refine wpAnyH_take (i := 2) (v := ?_) rfl (by kernel_rfl) (by kernel_rfl) (by kernel_rfl) (fun _ _ _ h => h) (Or.inl ⟨by rfl, ?_⟩) (by assumption) ?_
    rotate_left
    · (intro w hSw; (try dsimp only at hSw); go_simp; try (with_reducible rfl))
    try simp only [Act.put, List.setIfInBounds_toArray, List.set_cons_zero, List.set_cons_succ, List.getElem_toArray, List.getElem_cons_zero, List.getElem_cons_succ]
    refine wpAnyH_take (i := 3) (v := ?_) rfl (by kernel_rfl) (by kernel_rfl) (by kernel_rfl) (fun _ _ _ h => h) (Or.inl ⟨by rfl, ?_⟩) (by assumption) ?_
    rotate_left
    · (intro w hSw; (try dsimp only at hSw); go_simp; try (with_reducible rfl))
    try simp only [Act.put, List.setIfInBounds_toArray, List.set_cons_zero, List.set_cons_succ, List.getElem_toArray, List.getElem_cons_zero, List.getElem_cons_succ]
    refine wpAnyH_take (i := 4) (v := ?_) rfl (by kernel_rfl) (by kernel_rfl) (by kernel_rfl) (fun _ _ _ h => h) (Or.inl ⟨by rfl, ?_⟩) (by assumption) ?_
    rotate_left
    · (intro w hSw; (try dsimp only at hSw); go_simp; try (with_reducible rfl))
    try simp only [Act.put, List.setIfInBounds_toArray, List.set_cons_zero, List.set_cons_succ, List.getElem_toArray, List.getElem_cons_zero, List.getElem_cons_succ]
    refine wpAnyH_take (i := 6) (v := ?_) rfl (by kernel_rfl) (by kernel_rfl) (by kernel_rfl) (fun _ _ _ h => h) (Or.inl ⟨by rfl, ?_⟩) (by assumption) ?_
    rotate_left
    · (intro w hSw; (try dsimp only at hSw); go_simp; try (with_reducible rfl))
    try simp only [Act.put, List.setIfInBounds_toArray, List.set_cons_zero, List.set_cons_succ, List.getElem_toArray, List.getElem_cons_zero, List.getElem_cons_succ]
    refine wpAnyH_take (i := 7) (v := ?_) rfl (by kernel_rfl) (by kernel_rfl) (by kernel_rfl) (fun _ _ _ h => h) (Or.inl ⟨by rfl, ?_⟩) (by assumption) ?_
    rotate_left
    · (intro w hSw; (try dsimp only at hSw); go_simp; try (with_reducible rfl))
    try simp only [Act.put, List.setIfInBounds_toArray, List.set_cons_zero, List.set_cons_succ, List.getElem_toArray, List.getElem_cons_zero, List.getElem_cons_succ]
    refine wpAnyH_take (i := 8) (v := ?_) rfl (by kernel_rfl) (by kernel_rfl) (by kernel_rfl) (fun _ _ _ h => h) (Or.inl ⟨by rfl, ?_⟩) (by assumption) ?_
    rotate_left
    · (intro w hSw; (try dsimp only at hSw); go_simp; try (with_reducible rfl))
    try simp only [Act.put, List.setIfInBounds_toArray, List.set_cons_zero, List.set_cons_succ, List.getElem_toArray, List.getElem_cons_zero, List.getElem_cons_succ]
    refine wpAnyH_ready (rs := [5, 9]) (by kernel_rfl) (by simp) ?_
    refine AllReadyH.cons rfl (fun K hK => ?_) (AllReadyH.cons rfl (fun K hK => ?_) AllReadyH.nil)
    · skip
      go_simp
      refine hK.out _ _ ?_ (fun hHeld => ?_)
      · exact HKC.out _ (Below.refl _ _).drew
      clear hK K
      try simp only [Act.put, List.setIfInBounds_toArray, List.set_cons_zero, List.set_cons_succ, List.getElem_toArray, List.getElem_cons_zero, List.getElem_cons_succ]
      refine wpAnyH_ready (rs := [9]) (by kernel_rfl) (by simp) ?_
      refine AllReadyH.cons rfl (fun K hK => ?_) AllReadyH.nil
      go_simp
      refine hK.out _ _ ?_ (fun hHeld => ?_)
      · exact HKC.out _ (below_alloc W9 _).drew
      clear hK K
      try simp only [Act.put, List.setIfInBounds_toArray, List.set_cons_zero, List.set_cons_succ, List.getElem_toArray, List.getElem_cons_zero, List.getElem_cons_succ]
      refine wpAnyH_ready (rs := [10]) (by kernel_rfl) (by simp) ?_
      refine AllReadyH.cons rfl (fun K hK => ?_) AllReadyH.nil
      rw [if_pos (by rfl)]
      refine op_push8 (.tmp 54) (.tmp 58) 53 rfl S i8 Tryz.underlying53 hi8 hy0 hy1 hy2 (fun b => b < S ∨ d.ownBlock = some b) a g.adds rfl g3 ⟨⟨(p0, p1), A, 0⟩, q1, c1, q2, c2⟩ HIO.out #[.int .i64 p0, .int .i64 p1, .slice q1 A.path.length c1, .int .i64 A.pref, .int .i64 A.med, .int .i64 A.org, .slice q2 A.tags.length c2, .int .i64 0] rfl _ rfl rfl O' HO' hl.2 g5 ?_
      intro v' w6 hown6 hb6 hk6 ho6 hs6
      obtain ⟨q6, c6, rfl, -, -, -⟩ := hown6.routes
      obtain ⟨HF⟩ : Nonempty (Hid (RdAt (w6.setCell ⟨R, 3, none⟩ (.slice q6 O'.length c6)) R S { g with adds := O', added := true } ∧ Fr R S W9.drew (w6.setCell ⟨R, 3, none⟩ (.slice q6 O'.length c6)))) := ⟨rdAt_adds (g := { g with added := true }) g1 g2 g3 g4 g5 ⟨hb6.os, hb6.tape, hb6.output, by omega, hk6, ho6.imp id fun ⟨b, e, hb⟩ => ⟨b, e, by omega⟩⟩ O' hown6⟩
      have e6 := hk6 R (by have := HNS.out.1; have := HNS.out.2.2.2.2.1; omega) (fun e => HAO.out.1 e.symm)
      rw [g1] at e6
      obtain ⟨-, -, -, y3, -, yf⟩ := heap_cells5 e6
      have yf3 := yf 3
      have e9 := hk6 N8 HNS.out.1 (fun e => HAO.out.2.1 e.symm)
      have e10 := hk6 N10 HNS.out.2.1 (fun e => HAO.out.2.2 e.symm)
      obtain ⟨HK6⟩ : Nonempty (Hid ((fun w' : World => (w'.cell? ⟨N8, 0, none⟩ = some (.int .i64 p0) ∧ w'.cell? ⟨N8, 1, none⟩ = some (.int .i64 p1)) ∧ w'.cell? ⟨N10, 0, none⟩ = some (.slice q1 A.path.length c1) ∧ w'.cell? ⟨N10, 1, none⟩ = some (.int .i64 A.pref) ∧ w'.cell? ⟨N10, 2, none⟩ = some (.int .i64 A.med) ∧ w'.cell? ⟨N10, 3, none⟩ = some (.int .i64 A.org) ∧ w'.cell? ⟨N10, 4, none⟩ = some (.slice q2 A.tags.length c2)) w6 ∧ (fun w' : World => (w'.cell? ⟨N8, 0, none⟩ = some (.int .i64 p0) ∧ w'.cell? ⟨N8, 1, none⟩ = some (.int .i64 p1)) ∧ w'.cell? ⟨N10, 0, none⟩ = some (.slice q1 A.path.length c1) ∧ w'.cell? ⟨N10, 1, none⟩ = some (.int .i64 A.pref) ∧ w'.cell? ⟨N10, 2, none⟩ = some (.int .i64 A.med) ∧ w'.cell? ⟨N10, 3, none⟩ = some (.int .i64 A.org) ∧ w'.cell? ⟨N10, 4, none⟩ = some (.slice q2 A.tags.length c2)) (w6.setCell ⟨R, 3, none⟩ (.slice q6 O'.length c6)))) := ⟨by
        obtain ⟨⟨k0, k1⟩, k2, k3, k4, k5, k7⟩ := HKC.out _ (Below.refl W9.heap.size W9).drew
        have f9 : (w6.setCell ⟨R, 3, none⟩ (.slice q6 O'.length c6)).heap[N8]? = W9.drew.heap[N8]? := by rw [Below.heap_setCell _ _ _ _ (by simpa using HNS.out.2.2.1)]; exact e9
        have f10 : (w6.setCell ⟨R, 3, none⟩ (.slice q6 O'.length c6)).heap[N10]? = W9.drew.heap[N10]? := by rw [Below.heap_setCell _ _ _ _ (by simpa using HNS.out.2.2.2.1)]; exact e10
        refine ⟨⟨⟨?_, ?_⟩, ?_, ?_, ?_, ?_, ?_⟩, ⟨⟨?_, ?_⟩, ?_, ?_, ?_, ?_, ?_⟩⟩
        · rw [World.cell?_of_block (w := W9.drew) e9]; exact k0
        · rw [World.cell?_of_block (w := W9.drew) e9]; exact k1
        · rw [World.cell?_of_block (w := W9.drew) e10]; exact k2
        · rw [World.cell?_of_block (w := W9.drew) e10]; exact k3
        · rw [World.cell?_of_block (w := W9.drew) e10]; exact k4
        · rw [World.cell?_of_block (w := W9.drew) e10]; exact k5
        · rw [World.cell?_of_block (w := W9.drew) e10]; exact k7
        · rw [World.cell?_of_block (w := W9.drew) f9]; exact k0
        · rw [World.cell?_of_block (w := W9.drew) f9]; exact k1
        · rw [World.cell?_of_block (w := W9.drew) f10]; exact k2
        · rw [World.cell?_of_block (w := W9.drew) f10]; exact k3
        · rw [World.cell?_of_block (w := W9.drew) f10]; exact k4
        · rw [World.cell?_of_block (w := W9.drew) f10]; exact k5
        · rw [World.cell?_of_block (w := W9.drew) f10]; exact k7⟩
      clear hHeld e6 e9 e10 yf hown6 hb6 hk6 ho6 hs6 g1 g2 g3
      refine hK.out _ _ ?_ (fun hHeld => ?_)
      · exact HK6.out.1
      clear hK K
      try simp only [Act.put, List.setIfInBounds_toArray, List.set_cons_zero, List.set_cons_succ, List.getElem_toArray, List.getElem_cons_zero, List.getElem_cons_succ]
      refine wpAnyH_take (i := 11) (v := ?_) rfl (by kernel_rfl) (by kernel_rfl) (by kernel_rfl) (fun _ _ _ h => h) (Or.inl ⟨by rfl, ?_⟩) (by assumption) ?_
      rotate_left
      · (intro w hSw; (try dsimp only at hSw); go_simp; try (with_reducible rfl))
      try simp only [Act.put, List.setIfInBounds_toArray, List.set_cons_zero, List.set_cons_succ, List.getElem_toArray, List.getElem_cons_zero, List.getElem_cons_succ]
      refine wpAnyH_take (i := 12) (v := ?_) rfl (by kernel_rfl) (by kernel_rfl) (by kernel_rfl) (fun _ _ _ h => h) (Or.inl ⟨by rfl, ?_⟩) (by assumption) ?_
      rotate_left
      · (intro w hSw; (try dsimp only at hSw); go_simp; try (with_reducible rfl))
      try simp only [Act.put, List.setIfInBounds_toArray, List.set_cons_zero, List.set_cons_succ, List.getElem_toArray, List.getElem_cons_zero, List.getElem_cons_succ]
      refine wpAnyH_take (i := 13) (v := ?_) rfl (by kernel_rfl) (by kernel_rfl) (by kernel_rfl) (fun _ _ _ h => h) (Or.inl ⟨by rfl, ?_⟩) (by assumption) ?_
      rotate_left
      · (intro w hSw; (try dsimp only at hSw); go_simp; try (with_reducible rfl))
      try simp only [Act.put, List.setIfInBounds_toArray, List.set_cons_zero, List.set_cons_succ, List.getElem_toArray, List.getElem_cons_zero, List.getElem_cons_succ]
      refine wpAnyH_ready (rs := [14]) (by kernel_rfl) (by simp) ?_
      refine AllReadyH.cons rfl (fun K hK => ?_) AllReadyH.nil
      go_simp
      refine hK.out _ _ ?_ (fun hHeld => ?_)
      · exact HK6.out.2
      clear hK K
      try simp only [Act.put, List.setIfInBounds_toArray, List.set_cons_zero, List.set_cons_succ, List.getElem_toArray, List.getElem_cons_zero, List.getElem_cons_succ]
      refine wpAnyH_done (by kernel_rfl) ?_ _
      clear hHeld
      go_wp2_with fail
      go_ret
      exact ⟨rfl, HF9.out.2.trans HF.out.2, fun g' hg => by
        simp only [Option.some.injEq] at hg
        subst hg
        rw [show g.adds ++ [⟨(p0, p1), A, 0⟩] = O' from HO'.out]
        exact HF.out.1⟩
    · skip
      go_simp
      refine hK.out _ _ ?_ (fun hHeld => ?_)
      · exact HKC.out _ (below_alloc W9 _).drew
      clear hK K
      try simp only [Act.put, List.setIfInBounds_toArray, List.set_cons_zero, List.set_cons_succ, List.getElem_toArray, List.getElem_cons_zero, List.getElem_cons_succ]
      have z3' : (W9.alloc (.cells #[.int .i64 p0, .int .i64 p1, .slice q1 A.path.length c1, .int .i64 A.pref, .int .i64 A.med, .int .i64 A.org, .slice q2 A.tags.length c2, .int .i64 0] 67)).drew.cell? ⟨R, 3, none⟩ = some a := by
        show (W9.drew.alloc _).cell? _ = _
        exact cell_kept (below_alloc _ _) z3
      refine wpAnyH_ready (rs := [5]) (by kernel_rfl) (by simp) ?_
      refine AllReadyH.cons rfl (fun K hK => ?_) AllReadyH.nil
      go_simp
      refine hK.out _ _ ?_ (fun hHeld => ?_)
      · exact HKC.out _ (below_alloc W9 _).drew
      clear hK K
      try simp only [Act.put, List.setIfInBounds_toArray, List.set_cons_zero, List.set_cons_succ, List.getElem_toArray, List.getElem_cons_zero, List.getElem_cons_succ]
      refine wpAnyH_ready (rs := [10]) (by kernel_rfl) (by simp) ?_
      refine AllReadyH.cons rfl (fun K hK => ?_) AllReadyH.nil
      rw [if_pos (by rfl)]
      refine op_push8 (.tmp 54) (.tmp 58) 53 rfl S i8 Tryz.underlying53 hi8 hy0 hy1 hy2 (fun b => b < S ∨ d.ownBlock = some b) a g.adds rfl g3 ⟨⟨(p0, p1), A, 0⟩, q1, c1, q2, c2⟩ HIO.out #[.int .i64 p0, .int .i64 p1, .slice q1 A.path.length c1, .int .i64 A.pref, .int .i64 A.med, .int .i64 A.org, .slice q2 A.tags.length c2, .int .i64 0] rfl _ rfl rfl O' HO' hl.2 g5 ?_
      intro v' w6 hown6 hb6 hk6 ho6 hs6
      obtain ⟨q6, c6, rfl, -, -, -⟩ := hown6.routes
      obtain ⟨HF⟩ : Nonempty (Hid (RdAt (w6.setCell ⟨R, 3, none⟩ (.slice q6 O'.length c6)) R S { g with adds := O', added := true } ∧ Fr R S W9.drew (w6.setCell ⟨R, 3, none⟩ (.slice q6 O'.length c6)))) := ⟨rdAt_adds (g := { g with added := true }) g1 g2 g3 g4 g5 ⟨hb6.os, hb6.tape, hb6.output, by omega, hk6, ho6.imp id fun ⟨b, e, hb⟩ => ⟨b, e, by omega⟩⟩ O' hown6⟩
      have e6 := hk6 R (by have := HNS.out.1; have := HNS.out.2.2.2.2.1; omega) (fun e => HAO.out.1 e.symm)
      rw [g1] at e6
      obtain ⟨-, -, -, y3, -, yf⟩ := heap_cells5 e6
      have yf3 := yf 3
      have e9 := hk6 N8 HNS.out.1 (fun e => HAO.out.2.1 e.symm)
      have e10 := hk6 N10 HNS.out.2.1 (fun e => HAO.out.2.2 e.symm)
      obtain ⟨HK6⟩ : Nonempty (Hid ((fun w' : World => (w'.cell? ⟨N8, 0, none⟩ = some (.int .i64 p0) ∧ w'.cell? ⟨N8, 1, none⟩ = some (.int .i64 p1)) ∧ w'.cell? ⟨N10, 0, none⟩ = some (.slice q1 A.path.length c1) ∧ w'.cell? ⟨N10, 1, none⟩ = some (.int .i64 A.pref) ∧ w'.cell? ⟨N10, 2, none⟩ = some (.int .i64 A.med) ∧ w'.cell? ⟨N10, 3, none⟩ = some (.int .i64 A.org) ∧ w'.cell? ⟨N10, 4, none⟩ = some (.slice q2 A.tags.length c2)) w6 ∧ (fun w' : World => (w'.cell? ⟨N8, 0, none⟩ = some (.int .i64 p0) ∧ w'.cell? ⟨N8, 1, none⟩ = some (.int .i64 p1)) ∧ w'.cell? ⟨N10, 0, none⟩ = some (.slice q1 A.path.length c1) ∧ w'.cell? ⟨N10, 1, none⟩ = some (.int .i64 A.pref) ∧ w'.cell? ⟨N10, 2, none⟩ = some (.int .i64 A.med) ∧ w'.cell? ⟨N10, 3, none⟩ = some (.int .i64 A.org) ∧ w'.cell? ⟨N10, 4, none⟩ = some (.slice q2 A.tags.length c2)) (w6.setCell ⟨R, 3, none⟩ (.slice q6 O'.length c6)))) := ⟨by
        obtain ⟨⟨k0, k1⟩, k2, k3, k4, k5, k7⟩ := HKC.out _ (Below.refl W9.heap.size W9).drew
        have f9 : (w6.setCell ⟨R, 3, none⟩ (.slice q6 O'.length c6)).heap[N8]? = W9.drew.heap[N8]? := by rw [Below.heap_setCell _ _ _ _ (by simpa using HNS.out.2.2.1)]; exact e9
        have f10 : (w6.setCell ⟨R, 3, none⟩ (.slice q6 O'.length c6)).heap[N10]? = W9.drew.heap[N10]? := by rw [Below.heap_setCell _ _ _ _ (by simpa using HNS.out.2.2.2.1)]; exact e10
        refine ⟨⟨⟨?_, ?_⟩, ?_, ?_, ?_, ?_, ?_⟩, ⟨⟨?_, ?_⟩, ?_, ?_, ?_, ?_, ?_⟩⟩
        · rw [World.cell?_of_block (w := W9.drew) e9]; exact k0
        · rw [World.cell?_of_block (w := W9.drew) e9]; exact k1
        · rw [World.cell?_of_block (w := W9.drew) e10]; exact k2
        · rw [World.cell?_of_block (w := W9.drew) e10]; exact k3
        · rw [World.cell?_of_block (w := W9.drew) e10]; exact k4
        · rw [World.cell?_of_block (w := W9.drew) e10]; exact k5
        · rw [World.cell?_of_block (w := W9.drew) e10]; exact k7
        · rw [World.cell?_of_block (w := W9.drew) f9]; exact k0
        · rw [World.cell?_of_block (w := W9.drew) f9]; exact k1
        · rw [World.cell?_of_block (w := W9.drew) f10]; exact k2
        · rw [World.cell?_of_block (w := W9.drew) f10]; exact k3
        · rw [World.cell?_of_block (w := W9.drew) f10]; exact k4
        · rw [World.cell?_of_block (w := W9.drew) f10]; exact k5
        · rw [World.cell?_of_block (w := W9.drew) f10]; exact k7⟩
      clear hHeld e6 e9 e10 yf hown6 hb6 hk6 ho6 hs6 g1 g2 g3
      refine hK.out _ _ ?_ (fun hHeld => ?_)
      · exact HK6.out.1
      clear hK K
      try simp only [Act.put, List.setIfInBounds_toArray, List.set_cons_zero, List.set_cons_succ, List.getElem_toArray, List.getElem_cons_zero, List.getElem_cons_succ]
      refine wpAnyH_take (i := 11) (v := ?_) rfl (by kernel_rfl) (by kernel_rfl) (by kernel_rfl) (fun _ _ _ h => h) (Or.inl ⟨by rfl, ?_⟩) (by assumption) ?_
      rotate_left
      · (intro w hSw; (try dsimp only at hSw); go_simp; try (with_reducible rfl))
      try simp only [Act.put, List.setIfInBounds_toArray, List.set_cons_zero, List.set_cons_succ, List.getElem_toArray, List.getElem_cons_zero, List.getElem_cons_succ]
      refine wpAnyH_take (i := 12) (v := ?_) rfl (by kernel_rfl) (by kernel_rfl) (by kernel_rfl) (fun _ _ _ h => h) (Or.inl ⟨by rfl, ?_⟩) (by assumption) ?_
      rotate_left
      · (intro w hSw; (try dsimp only at hSw); go_simp; try (with_reducible rfl))
      try simp only [Act.put, List.setIfInBounds_toArray, List.set_cons_zero, List.set_cons_succ, List.getElem_toArray, List.getElem_cons_zero, List.getElem_cons_succ]
      refine wpAnyH_take (i := 13) (v := ?_) rfl (by kernel_rfl) (by kernel_rfl) (by kernel_rfl) (fun _ _ _ h => h) (Or.inl ⟨by rfl, ?_⟩) (by assumption) ?_
      rotate_left
      · (intro w hSw; (try dsimp only at hSw); go_simp; try (with_reducible rfl))
      try simp only [Act.put, List.setIfInBounds_toArray, List.set_cons_zero, List.set_cons_succ, List.getElem_toArray, List.getElem_cons_zero, List.getElem_cons_succ]
      refine wpAnyH_ready (rs := [14]) (by kernel_rfl) (by simp) ?_
      refine AllReadyH.cons rfl (fun K hK => ?_) AllReadyH.nil
      go_simp
      refine hK.out _ _ ?_ (fun hHeld => ?_)
      · exact HK6.out.2
      clear hK K
      try simp only [Act.put, List.setIfInBounds_toArray, List.set_cons_zero, List.set_cons_succ, List.getElem_toArray, List.getElem_cons_zero, List.getElem_cons_succ]
      refine wpAnyH_done (by kernel_rfl) ?_ _
      clear hHeld
      go_wp2_with fail
      go_ret
      exact ⟨rfl, HF9.out.2.trans HF.out.2, fun g' hg => by
        simp only [Option.some.injEq] at hg
        subst hg
        rw [show g.adds ++ [⟨(p0, p1), A, 0⟩] = O' from HO'.out]
        exact HF.out.1⟩
end Go.Proofs.YtbfdgflbflajdaaGreatDoor
