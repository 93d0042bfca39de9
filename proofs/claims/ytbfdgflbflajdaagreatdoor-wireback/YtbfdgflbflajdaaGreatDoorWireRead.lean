/-
  Package wire's Read: what it returns for a text whose lines are all right, and a right message with it.
-/
import Derived.Test.YtbfdgflbflajdaaGreatDoorWireLines
namespace Go.Proofs.YtbfdgflbflajdaaGreatDoor
open Go.RowKit

theorem enters_rd1 : ∀ args w, (callFunc 66 args).run Tryz.prog w = .ok (.enter 66 args) w := fun args w => by kernel_rfl
theorem runR_part (L : List (List UInt8)) {g : Rg} (h : runR rg0 0 L = some g) (k : Nat) : ∃ g', runR rg0 0 (L.take k) = some g' := by
  have e := runR_append rg0 0 (L.take k) (L.drop k)
  rw [List.take_append_drop, h] at e
  cases h2 : runR rg0 0 (L.take k) with
  | none => rw [h2] at e; cases e
  | some g' => exact ⟨g', rfl⟩
set_option linter.unusedVariables false in
set_option maxRecDepth 100000 in
set_option maxHeartbeats 2000000 in
/-- one line more. -/
theorem rd1_any (g g' : Rg) (k : Nat) (L : List (List UInt8)) (Lb c Lc R S : Nat) (E : Nat → Addr) (m : Int) (w : World) (hEV : ∀ w', Fr R S w w' → WireEnv w' E m) (h : RdAt w R S g) (hk : k < L.length) (hL : LineRow w Lb L) (hc : w.cell? ⟨Lc, 0, none⟩ = some (.slice (some ⟨Lb, 0, none⟩) L.length c)) (hn : L.length ≤ 100000)
    (hs : L[k].length ≤ 100000) (hl : g.drops.length ≤ 1000000 ∧ g.adds.length ≤ 1000000) (hg : stepR g k L[k] = some g') :
    Calls Tryz.prog 66 #[.int .i64 (k : Int), .pointer (some ⟨R, 0, none⟩), .pointer (some ⟨Lc, 0, none⟩)] w fun r w' => r = .returned .nilIface ∧ Fr R S w w' ∧ RdAt w' R S g' := by
  obtain ⟨HT⟩ : Nonempty (Hid (Calls _ _ _ _ _)) := ⟨take_any g k L[k] R S E m w hEV h hs hl⟩
  rw [hg] at HT
  have c0 := hL k hk
  obtain ⟨x, hx⟩ : ∃ x, Hid (L[k] = x) := ⟨_, show _ = _ from rfl⟩
  rw [show L[k] = x from hx.out] at HT c0
  have q3 : (k : Int) < L.length := by omega
  clear hEV h hL hg hs hx
  go_enter Tryz.func66, Tryz.ntmps66
  go_wp2_with fail
  refine HT.out.mono ?_
  rintro e w1 ht
  obtain ⟨rfl, h2, h3⟩ := ht
  simp only [Option.isSome_some]
  obtain ⟨HR⟩ : Nonempty (Hid (Fr R S w w1 ∧ RdAt w1 R S g')) := ⟨⟨h2, h3 g' rfl⟩⟩
  clear h2 h3
  go_wp2_with fail
  go_ret
  exact ⟨rfl, HR.out.1, HR.out.2⟩

set_option linter.unusedVariables false in
set_option linter.unusedSimpArgs false in
set_option maxRecDepth 100000 in
set_option maxHeartbeats 4000000 in
theorem read_right (s : List UInt8) (M : Ms) (ad : Bool) (E : Nat → Addr) (m : Int) (w : World) (hE : WireEnv w E m) (hs : s.length ≤ 8000) (hrun : runR rg0 0 (linesL s) = some ⟨M.kind, M.n, M.drops, M.adds, ad⟩) (hM : RightM M) :
    Calls Tryz.prog 31 #[.string ⟨s.toArray⟩] w fun r w' => (∃ v, r = .returned (.tuple #[v, .nilIface]) ∧ IsMsg w' v M) ∧ Below w.heap.size w w' := by
  obtain ⟨N, hN⟩ : ∃ N, Hid (w.heap.size = N) := ⟨_, show _ = _ from rfl⟩
  obtain ⟨W1, hW1⟩ : ∃ W1, Hid ((w.alloc (.cells #[.string ⟨#[]⟩, .int .i64 0, .slice none 0 0, .slice none 0 0] 55)).alloc (.cells #[.string ⟨#[]⟩, .int .i64 0, .slice none 0 0, .slice none 0 0, .bool false] 100) = W1) := ⟨_, show _ = _ from rfl⟩
  obtain ⟨HH⟩ : Nonempty (Hid (W1.heap[N]? = some (.cells #[.string ⟨#[]⟩, .int .i64 0, .slice none 0 0, .slice none 0 0] 55 (0, 0)) ∧ W1.heap[N + 1]? = some (.cells #[.string ⟨#[]⟩, .int .i64 0, .slice none 0 0, .slice none 0 0, .bool false] 100 (0, 0)) ∧ Below N w W1 ∧ W1.heap.size = N + 2)) := ⟨by
    rw [← hW1.out, ← hN.out]
    refine ⟨?_, ?_, ?_, by simp⟩
    · rw [Below.heap_alloc _ _ _ (by simp)]; exact Go.heap_alloc_new w _
    · have := Go.heap_alloc_new (w.alloc (.cells #[.string ⟨#[]⟩, .int .i64 0, .slice none 0 0, .slice none 0 0] 55)) (.cells #[.string ⟨#[]⟩, .int .i64 0, .slice none 0 0, .slice none 0 0, .bool false] 100)
      simpa using this
    · exact (below_alloc _ _).trans ((below_alloc _ _).mono (by simp))⟩
  obtain ⟨HEB⟩ : Nonempty (Hid (∀ w', Below N w w' → WireEnv w' E m)) := ⟨fun w' hb => hE.below (by rw [show w.heap.size = N from hN.out]; exact hb)⟩
  obtain ⟨HLO⟩ : Nonempty (Hid (Calls _ _ _ _ _)) := ⟨linesOf_any s E m W1 (HEB.out _ HH.out.2.2.1) (by omega)⟩
  have hll := linesL_len s
  have hlz := linesL_size s
  obtain ⟨L, hL⟩ : ∃ L, Hid (linesL s = L) := ⟨_, show _ = _ from rfl⟩
  rw [show linesL s = L from hL.out] at HLO hrun hll hlz
  rw [HH.out.2.2.2] at HLO
  obtain ⟨HRUN⟩ : Nonempty (Hid (runR rg0 0 L = some ⟨M.kind, M.n, M.drops, M.adds, ad⟩ ∧ ∀ l ∈ L, l.length ≤ 100000)) := ⟨⟨hrun, fun l hl => by have := hlz l hl; omega⟩⟩
  obtain ⟨HM⟩ : Nonempty (Hid (RightM M)) := ⟨hM⟩
  have hln : L.length ≤ 8001 := by omega
  clear hrun hll hlz hE hM
  go_enter Tryz.func31, Tryz.ntmps31
  go_wp2_with fail
  rw [show (w.alloc (.cells #[.string ⟨#[]⟩, .int .i64 0, .slice none 0 0, .slice none 0 0] 55)).alloc (.cells #[.string ⟨#[]⟩, .int .i64 0, .slice none 0 0, .slice none 0 0, .bool false] 100) = W1 from hW1.out, show w.heap.size = N from hN.out]
  refine HLO.out.mono ?_
  rintro e w2 ⟨⟨c, rfl⟩, hrow, hlt, hb2⟩
  obtain ⟨Lc, hLc⟩ : ∃ b, Hid (w2.heap.size = b) := ⟨_, show _ = _ from rfl⟩
  obtain ⟨W3, hW3⟩ : ∃ b, Hid (w2.alloc (.cells #[.slice (some ⟨N + 2, 0, none⟩) L.length c] 74) = b) := ⟨_, show _ = _ from rfl⟩
  rw [show w2.heap.size = Lc from hLc.out] at hlt
  obtain ⟨HB3⟩ : Nonempty (Hid (Below (N + 2) W1 W3 ∧ LineRow W3 (N + 2) L ∧ W3.cell? ⟨Lc, 0, none⟩ = some (.slice (some ⟨N + 2, 0, none⟩) L.length c) ∧ W3.heap.size = Lc + 1 ∧ N + 2 < Lc)) := ⟨by
    refine ⟨?_, ?_, ?_, by rw [← hW3.out, ← hLc.out]; simp, hlt⟩
    · rw [← hW3.out]; exact hb2.trans ((below_alloc _ _).mono (by rw [show w2.heap.size = Lc from hLc.out]; omega))
    · rw [← hW3.out]; exact hrow.below (below_alloc _ _)
    · rw [← hW3.out, ← hLc.out, World.cell?_alloc_at _ _ _ _ rfl]; rfl⟩
  obtain ⟨S, hS⟩ : ∃ S, S = Lc + 1 := ⟨_, rfl⟩
  obtain ⟨HBW⟩ : Nonempty (Hid (∀ w', Fr (N + 1) S W3 w' → Below N w w')) := ⟨fun w' hf => by
    have h1 := hf.below (by have := HB3.out.2.2.2.2; omega)
    have h2 : Below N w W3 := HH.out.2.2.1.trans (HB3.out.1.mono (by omega))
    exact h2.trans (h1.mono (by omega))⟩
  obtain ⟨HEV⟩ : Nonempty (Hid (∀ w', Fr (N + 1) S W3 w' → WireEnv w' E m)) := ⟨fun w' hf => HEB.out _ (HBW.out _ hf)⟩
  obtain ⟨HLR⟩ : Nonempty (Hid (∀ w', Fr (N + 1) S W3 w' → LineRow w' (N + 2) L ∧ w'.cell? ⟨Lc, 0, none⟩ = some (.slice (some ⟨N + 2, 0, none⟩) L.length c))) := ⟨fun w' hf => by
    obtain ⟨h1, h2, h3, h4, h5⟩ := HB3.out
    exact ⟨fun i hi => hf.cell (h2 i hi) (by show N + 2 < S; omega) (by show N + 2 ≠ N + 1; omega), hf.cell h3 (by show Lc < S; omega) (by show Lc ≠ N + 1; omega)⟩⟩
  obtain ⟨HR0⟩ : Nonempty (Hid (RdAt W3 (N + 1) S rg0)) := ⟨by
    obtain ⟨h1, h2, h3, h4, h5⟩ := HB3.out
    refine ⟨.slice none 0 0, .slice none 0 0, ?_, World.ownsRow_nil _ _ _ _, ownRo_nil _ _ _, by omega, by omega⟩
    rw [h1.block (N + 1) (by omega)]
    exact HH.out.2.1⟩
  obtain ⟨HT⟩ : Nonempty (Hid (Told 66 #[.pointer (some ⟨N + 1, 0, none⟩), .pointer (some ⟨Lc, 0, none⟩)] E m L.length (fun _ => 0) (fun k W => ∃ g, runR rg0 0 (L.take k) = some g ∧ RdAt W (N + 1) S g ∧ Fr (N + 1) S W3 W) (fun W => Fr (N + 1) S W3 W))) := ⟨⟨enters_rd1, fun k W hk ⟨g, hg, hr, hf⟩ => by
    obtain ⟨g', hg'⟩ := runR_part L HRUN.out.1 (k + 1)
    have e1 := hg'
    rw [runR_succ L k hk, hg] at e1
    have hst : stepR g k L[k] = some g' := e1
    have hok := runR_ok L k (by omega) hg
    have hlr := HLR.out W hf
    refine (rd1_any g g' k L (N + 2) c Lc (N + 1) S E m W (fun w' hf' => HEV.out _ (hf.trans hf')) hr hk hlr.1 hlr.2 (by omega) (HRUN.out.2 _ (List.getElem_mem hk)) (by have := hok.len; omega) hst).mono ?_
    rintro r w' ⟨rfl, h1, h2⟩
    exact ⟨⟨_, -1, rfl, isErr_nil _ _⟩, fun _ => ⟨g', hg', h2, hf.trans h1⟩, fun h => absurd rfl h⟩, fun W hf => (HEV.out W hf).at1, fun W W' hf hb => by
    refine hf.trans (Fr.of_below hb ?_)
    have := hf.size
    have := HB3.out.2.2.2.1
    omega⟩⟩
  obtain ⟨HF⟩ : Nonempty (Hid (Calls _ _ _ _ _)) := ⟨first_any L.length 66 #[.pointer (some ⟨N + 1, 0, none⟩), .pointer (some ⟨Lc, 0, none⟩)] E m _ _ _ W3 HT.out ⟨rg0, rfl, HR0.out, Fr.refl _ _ _⟩ (by omega)⟩
  have hq0 : (firstQ (fun _ => 0) L.length).1 = 0 := (firstQ_zero _ _).2 fun _ _ => rfl
  obtain ⟨z0, hz0⟩ : ∃ z, firstQ (fun _ => 0) L.length = z := ⟨_, rfl⟩
  rw [hz0] at HF hq0
  have hc3 := HB3.out.2.2.1
  clear hrow hlt hb2 HLO hz0
  go_wp2_with fail
  rw [show w2.alloc (.cells #[.slice (some ⟨N + 2, 0, none⟩) L.length c] 74) = W3 from hW3.out, show w2.heap.size = Lc from hLc.out]
  go_wp2_with fail
  refine HF.out.mono ?_
  rintro e w4 ⟨⟨v, rfl, hv⟩, h1, -⟩
  obtain ⟨g, hg, hr4, hf4⟩ := h1 hq0
  rw [List.take_length, HRUN.out.1] at hg
  simp only [Option.some.injEq] at hg
  subst hg
  rcases isErr_cases hv with ⟨-, rfl⟩ | ⟨h0, -⟩
  rotate_left
  · omega
  obtain ⟨HF4⟩ : Nonempty (Hid (Fr (N + 1) S W3 w4)) := ⟨hf4⟩
  obtain ⟨d, a, hR, hd, ha, hRS, hSS⟩ := hr4
  simp only at hR hd ha
  obtain ⟨p, cp, rfl, -, -, hP⟩ := own_pairs hd
  obtain ⟨q, cq, rfl, -, -, hQ⟩ := ha.routes
  obtain ⟨x0, x1, x2, x3, -, -⟩ := heap_cells5 hR
  obtain ⟨HN4⟩ : Nonempty (Hid (w4.heap[N]? = some (.cells #[.string ⟨#[]⟩, .int .i64 0, .slice none 0 0, .slice none 0 0] 55 (0, 0)))) := ⟨by
    show _ = _
    rw [HF4.out.block N (by omega) (by omega), HB3.out.1.block N (by omega)]
    exact HH.out.1⟩
  obtain ⟨HR4⟩ : Nonempty (Hid (w4.heap[N + 1]? = some (.cells #[.string ⟨M.kind.toArray⟩, .int .i64 M.n, (.slice p M.drops.length cp), (.slice q M.adds.length cq), .bool ad] 100 (0, 0)) ∧ w4.ownsRow S 65 2 (.slice p M.drops.length cp) M.drops.length (flat2 M.drops) ∧ OwnRo w4 S (.slice q M.adds.length cq) M.adds (fun b => b < S ∨ (Value.slice p M.drops.length cp).ownBlock = some b) ∧ S ≤ w4.heap.size ∧ N + 1 < S)) := ⟨⟨hR, hd, ha, hSS, hRS⟩⟩
  obtain ⟨HCK⟩ : Nonempty (Hid (Calls Tryz.prog 61 #[.agg #[.string ⟨M.kind.toArray⟩, .int .i64 M.n, (.slice p M.drops.length cp), (.slice q M.adds.length cq)]] w4 fun r w' => r = .returned .nilIface ∧ Below w4.heap.size w4 w')) := ⟨by
    refine (wCheck_any _ M E m w4 (HEV.out _ HF4.out) ⟨p, cp, q, cq, rfl, hP, hQ⟩ (by have := HM.out.len; omega) (by have := HM.out.len; omega) HM.out.mod).mono ?_
    rintro r w' ⟨⟨v', rfl, hv'⟩, hb⟩
    have h0 := (msgC_zero M).2 HM.out
    rcases isErr_cases hv' with ⟨-, rfl⟩ | ⟨h9, -⟩
    · exact ⟨rfl, hb⟩
    · omega⟩
  clear h1 hv hq0 hf4 hR hd ha hSS hRS hP hQ hc3
  go_wp2_with fail
  refine HCK.out.mono ?_
  rintro e w5 ⟨rfl, hb5⟩
  obtain ⟨HB5⟩ : Nonempty (Hid (Below w4.heap.size w4 w5)) := ⟨hb5⟩
  obtain ⟨HN5⟩ : Nonempty (Hid (w5.heap[N]? = some (.cells #[.string ⟨#[]⟩, .int .i64 0, .slice none 0 0, .slice none 0 0] 55 (0, 0)))) := ⟨by
    show _ = _
    rw [HB5.out.block N (by have := HR4.out.2.2.2; omega)]
    exact HN4.out⟩
  obtain ⟨y0, y1, y2, y3⟩ := heap_cells4 HN5.out
  have hf5 : ∀ o, w5.frozen? ⟨N, o, none⟩ = false := fun o => by
    have := HN5.out
    simp [World.frozen?, this]
  have x0' := cell_kept HB5.out x0
  have x1' := cell_kept HB5.out x1
  have x2' := cell_kept HB5.out x2
  have x3' := cell_kept HB5.out x3
  obtain ⟨z0', z1', z2', z3'⟩ := heap_cells4 (set4 HN5.out (.string ⟨M.kind.toArray⟩) (.int .i64 M.n) (.slice p M.drops.length cp) (.slice q M.adds.length cq))
  clear hb5 x0 x1 x2 x3
  go_wp2_with fail
  refine bodyPost_ret (v := .tuple #[.agg #[.string ⟨M.kind.toArray⟩, .int .i64 M.n, .slice p M.drops.length cp, .slice q M.adds.length cq], .nilIface]) (by simp [results, Tryz.results31, go_sem, z0', z1', z2', z3']) rfl ⟨⟨_, rfl, ?_⟩, ?_⟩
  · obtain ⟨-, hd, ha, hSS, hRS⟩ := HR4.out
    have hd5 := own_below hd HB5.out
    have ha5 := ha.below HB5.out
    obtain ⟨na, xa, hao⟩ := ha5.own
    have hX : ∀ k, k ≠ N → ((((w5.setCell ⟨N, 0, none⟩ (.string ⟨M.kind.toArray⟩)).setCell ⟨N, 1, none⟩ (.int .i64 M.n)).setCell ⟨N, 2, none⟩ (.slice p M.drops.length cp)).setCell ⟨N, 3, none⟩ (.slice q M.adds.length cq)).heap[k]? = w5.heap[k]? := fun k hk => by
      rw [Below.heap_setCell _ _ _ _ (by simpa using hk), Below.heap_setCell _ _ _ _ (by simpa using hk), Below.heap_setCell _ _ _ _ (by simpa using hk), Below.heap_setCell _ _ _ _ (by simpa using hk)]
    have hdX := wOwn_kept hd5 (fun b hb => hX b (by have := (hd5.lt b hb).1; omega))
    have haX := ha5.kept (fun k _ hn => hX k (fun e => hn (.inl (by omega)))) (fun b hb hf => by
      rcases hf with h | h
      · have := (hao.lt b hb).1; omega
      · exact rows_apart (by decide) hao hd5 b hb h)
    obtain ⟨p', cp', e1, -, -, hP⟩ := own_pairs hdX
    obtain ⟨q', cq', e2, -, -, hQ⟩ := haX.routes
    simp only [Value.slice.injEq, true_and] at e1 e2
    obtain ⟨rfl, rfl⟩ := e1
    obtain ⟨rfl, rfl⟩ := e2
    exact ⟨p, cp, q, cq, rfl, hP, hQ⟩
  · have h4 := HBW.out _ HF4.out
    have h5 : Below N w w5 := h4.trans (HB5.out.mono (by have := HR4.out.2.2.2; omega))
    rw [show w.heap.size = N from hN.out]
    exact (((h5.setCell (Nat.le_refl _) _).setCell (Nat.le_refl _) _).setCell (Nat.le_refl _) _).setCell (Nat.le_refl _) _
end Go.Proofs.YtbfdgflbflajdaaGreatDoor
