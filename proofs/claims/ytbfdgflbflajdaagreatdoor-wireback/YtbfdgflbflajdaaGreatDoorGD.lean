/-
  From a row's condition to what package attr's walks lean on; what is told of a route, among the arguments.
  Package place: Bare and First: what they return.
-/
import Derived.Test.YtbfdgflbflajdaaGreatDoorGA
import Derived.Test.YtbfdgflbflajdaaGreatDoorAttrEnv
import Derived.Test.YtbfdgflbflajdaaGreatDoorGC
import Derived.Deep.Slices
import Derived.Carry
import Derived.ChangeSlices
namespace Go.Proofs.YtbfdgflbflajdaaGreatDoor
open Go.ChangeShapes Go.WideShapes Go.ChangeAt Go.RowKit Go.Joins Go.Deep

theorem laidOutF : laidOutB Tryz.prog = true := by kernel_rfl
theorem cellsI : Tryz.prog.cellsOf 3 = 1 := by kernel_rfl
theorem cellsSI : Tryz.prog.cellsOf 22 = 1 := by kernel_rfl
theorem cellsAt : Tryz.prog.cellsOf 24 = 5 := by kernel_rfl
theorem typesAt : Tryz.prog.cellTypes Tryz.prog.depth 24 = some [22, 3, 3, 3, 22] := by kernel_rfl
section
variable {H : Type} {enc : TypeId × Value → H}
set_option maxRecDepth 100000 in
theorem ints_of_trod {W : World} {fuel b0 : Nat} {v : Value} {x : DataW H × List MemPlace} (h : DataW.trod enc Tryz.prog W 0 (fun _ => true) true fuel 22 [v] = some x) (ho : Cell.okWide Tryz.prog W .any b0 22 v) :
    ∃ p L c, v = .slice p L.length c ∧ Ints W p L ∧ Kind1 p L.length c := by
  rcases open_ints Tryz.underlying22 Tryz.underlying3 cellsI h with ⟨hcs, -⟩ | ⟨a, len, cap, zs, hcs, -, h1, h2, h3, -, hall, -⟩
  · simp at hcs
    subst hcs
    exact ⟨none, [], 0, rfl, ints_nil _ _, .inl ⟨rfl, rfl, rfl⟩⟩
  · simp at hcs
    subst hcs
    simp only [if_true] at h3
    have hsp : a.spot = none := by
      simp only [Cell.okWide, Tryz.underlying22, Cell.ok, World.has] at ho
      exact ho.2.2.2.1
    obtain ⟨b, o, spot⟩ := a
    simp only at hsp
    subst hsp
    have hl : (zs.take len).length = len := by simp; omega
    refine ⟨some ⟨b, o, none⟩, zs.take len, cap, by rw [hl], fun i hi => ⟨b, o, rfl, ?_⟩, .inr ⟨⟨b, o, rfl⟩, by omega, h2⟩⟩
    have hi' : i < len := by rw [hl] at hi; exact hi
    have := hall i (by omega)
    rw [Addr.add_lit] at this
    rw [this]
    simp [List.getD, show i < zs.length by omega]
theorem trod_struct5 {P : Program} {w : World} {base : Nat} {spare : Nat → Bool} {held : Bool} {t : TypeId} {f0 f1 f2 f3 f4 : Field} {fuel : Nat} {cs : List Value} {x : DataW H × List MemPlace} (ht : P.underlying t = some (.struct #[f0, f1, f2, f3, f4])) (h : DataW.trod enc P w base spare held fuel t cs = some x) :
    ∃ y0 y1 y2 y3 y4 n, DataW.trod enc P w base spare held n f0.type ((cs.drop f0.offset).take (P.cellsOf f0.type)) = some y0 ∧ DataW.trod enc P w base spare held n f1.type ((cs.drop f1.offset).take (P.cellsOf f1.type)) = some y1 ∧
      DataW.trod enc P w base spare held n f2.type ((cs.drop f2.offset).take (P.cellsOf f2.type)) = some y2 ∧ DataW.trod enc P w base spare held n f3.type ((cs.drop f3.offset).take (P.cellsOf f3.type)) = some y3 ∧ DataW.trod enc P w base spare held n f4.type ((cs.drop f4.offset).take (P.cellsOf f4.type)) = some y4 := by
  obtain ⟨xs, n, _, _, _, hlen, hf⟩ := DataW.trod_struct ht h
  match xs, hlen with
  | [y0, y1, y2, y3, y4], _ => exact ⟨y0, y1, y2, y3, y4, n, by simpa using hf 0 f0 rfl, by simpa using hf 1 f1 rfl, by simpa using hf 2 f2 rfl, by simpa using hf 3 f3 rfl, by simpa using hf 4 f4 rfl⟩
set_option maxRecDepth 100000 in
/-- What is told of a route, that came in. -/
theorem open_attr {W : World} {b0 : Nat} {v : Value} {d : DataW H} {ps : List MemPlace} (hv : Value.okWide Tryz.prog W .any b0 24 v) (h : DataW.Trod enc Tryz.prog W 0 (fun _ => true) true 24 v d ps) :
    ∃ A, AttrK W v A := by
  have hv' : ∃ cs, v = .agg cs ∧ cs.size = Tryz.prog.cellsOf 24 ∧ Row.okWide Tryz.prog W .any b0 24 cs := by
    simpa only [Value.okWide, Tryz.underlying24] using hv
  obtain ⟨cs, rfl, hsz, ts, hts, -, hcell⟩ := hv'
  obtain rfl := Option.some.inj (typesAt.symm.trans hts)
  rw [cellsAt] at hsz
  obtain ⟨l⟩ := cs
  obtain ⟨fuel, hf⟩ := h
  obtain ⟨y0, y1, y2, y3, y4, n, g0, g1, g2, g3, g4⟩ := trod_struct5 Tryz.underlying24 hf
  match l, hsz with
  | [c0, c1, c2, c3, c4], _ =>
    simp only [Value.cells, cellsI, cellsSI, List.drop_zero, List.take_succ_cons, List.take_zero, List.drop_succ_cons] at g0 g1 g2 g3 g4
    obtain ⟨p, P, cp, rfl, i1, k1⟩ := ints_of_trod g0 (by obtain ⟨u, hu, ho⟩ := hcell 0 c0 rfl; obtain rfl : 22 = u := (by simpa using hu); exact ho)
    obtain ⟨f, q1, -, -⟩ := DataW.trod_int Tryz.underlying3 g1
    obtain ⟨m, q2, -, -⟩ := DataW.trod_int Tryz.underlying3 g2
    obtain ⟨o, q3, -, -⟩ := DataW.trod_int Tryz.underlying3 g3
    obtain ⟨q, T, cq, rfl, i2, k2⟩ := ints_of_trod g4 (by obtain ⟨u, hu, ho⟩ := hcell 4 c4 rfl; obtain rfl : 22 = u := (by simpa using hu); exact ho)
    simp only [List.cons.injEq, and_true] at q1 q2 q3
    subst q1 q2 q3
    exact ⟨⟨P, f, m, o, T⟩, p, cp, q, cq, rfl, i1, i2, k1, k2⟩
end
theorem aGtabType : (Tryz.prog.globals[11]?).map (·.type) = some 207 := by kernel_rfl
theorem aCellsU64 : Tryz.prog.cellsOf 162 = 1 := by kernel_rfl
theorem aCellsTab : Tryz.prog.cellsOf 207 = 20 := by kernel_rfl
theorem aPow10_data : Rows.laid_internal_strconv_uint64pow10 = Lib.tabData (H := Unit) .u64 Lib.pow10Tab := by kernel_rfl
theorem aTab_of {W : World} {rest : List (String × DataW Unit)} (h : laidMet Tryz.prog (("internal/strconv.uint64pow10", Rows.laid_internal_strconv_uint64pow10) :: rest) W) : Lib.TabIs Tryz.prog W "internal/strconv.uint64pow10" .u64 Lib.pow10Tab := by
  rw [aPow10_data] at h
  exact Lib.tabIs_of_head aGtab aGtabType Tryz.underlying207 Tryz.underlying162 aCellsU64 aCellsTab h
theorem aMax_of {W : World} (h : W.ShapedOpen Tryz.prog) : ∃ m, W.cell? ⟨10, 0, none⟩ = some (.int .i64 m) :=
  Go.Proofs.cell_of_shapedOpen_int (zero := #[.int .i64 0]) (t := 3) h (of_decide_eq_true (by kernel_rfl)) (by kernel_rfl) rfl (by kernel_rfl) (by kernel_rfl) Tryz.underlying3
end Go.Proofs.YtbfdgflbflajdaaGreatDoor

namespace Go.Proofs.YtbfdgflbflajdaaGreatDoor
open Go.RowKit

theorem isErr_cases {w : World} {E : Nat → Addr} {v : Value} {c : Nat} {d : Int} (h : IsErr w E v c d) : (c = 0 ∧ v = .nilIface) ∨ (0 < c ∧ ∃ t a, v = .iface t (.pointer (some a))) := by
  rcases h with ⟨h0, h1⟩ | ⟨h0, h1, b, e, -⟩
  · cases c with
    | zero => exact .inl ⟨rfl, h1⟩
    | succ c => exact .inr ⟨by omega, _, _, h1⟩
  · exact .inr ⟨h1, _, _, e⟩

set_option linter.unusedVariables false in
set_option maxRecDepth 100000 in
set_option maxHeartbeats 2000000 in
theorem bare_any (v : Value) (c : Nat) (d : Int) (E : Nat → Addr) (m : Int) (w : World) (hE : AttrEnv w E m) (h : IsErr w E v c d) (hc : 0 < c) :
    Calls Tryz.prog 42 #[v] w fun r w' => r = .returned (ev E c) ∧ Below w.heap.size w w' := by
  cases c with
  | zero => omega
  | succ c =>
  rcases h with ⟨-, rfl⟩ | ⟨h0, -, b, rfl, x, y⟩
  · simp only [ev]
    obtain ⟨a, ha⟩ : ∃ a, Hid (E c = a) := ⟨_, show _ = _ from rfl⟩
    rw [show E c = a from ha.out]
    obtain ⟨HC⟩ : Nonempty (Hid (Calls _ _ _ _ _)) := ⟨as_miss' a w hE.hand⟩
    clear hE
    go_enter Tryz.func42, Tryz.ntmps42
    go_wp2_with fail
    refine HC.out.mono ?_
    rintro e w1 ⟨rfl, hb1⟩
    go_wp2_with fail
    go_ret
    exact ⟨rfl, hb1⟩
  · obtain ⟨HC⟩ : Nonempty (Hid (Calls _ _ _ _ _)) := ⟨as_hit' ⟨b, 0, none⟩ w hE.hand⟩
    obtain ⟨HY⟩ : Nonempty (Hid (_ = _)) := ⟨y⟩
    obtain ⟨u, hu⟩ : ∃ u, Hid (ev E (c + 1) = u) := ⟨_, show _ = _ from rfl⟩
    rw [show ev E (c + 1) = u from hu.out] at HY ⊢
    clear hE x y
    go_enter Tryz.func42, Tryz.ntmps42
    go_wp2_with fail
    refine HC.out.mono ?_
    rintro e w1 ⟨rfl, hb1, hf⟩
    have hy := cell_kept hb1 HY.out
    go_wp2_with fail
    go_ret
    exact ⟨rfl, hb1⟩

/-- a question of a place, as a function of the program's: the number of the error that it answers; I: what stands ahead of place k; J: what stands behind an error. -/
structure Told (f : Nat) (cs : Array Value) (E : Nat → Addr) (m : Int) (n : Nat) (q : Nat → Nat) (I : Nat → World → Prop) (J : World → Prop) : Prop where
  enters : ∀ args w, (callFunc f args).run Tryz.prog w = .ok (.enter f args) w
  says : ∀ k W, k < n → I k W → Calls Tryz.prog f (#[.int .i64 (k : Int)] ++ cs) W fun r w' => (∃ v d, r = .returned v ∧ IsErr w' E v (q k) d) ∧ (q k = 0 → I (k + 1) w') ∧ (q k ≠ 0 → J w')
  env : ∀ w, J w → AttrEnv w E m
  on : ∀ w w', J w → Below w.heap.size w w' → J w'

set_option linter.unusedVariables false in
set_option maxRecDepth 100000 in
set_option maxHeartbeats 4000000 in
theorem first_any (n : Nat) (f : Nat) (cs : Array Value) (E : Nat → Addr) (m : Int) (q : Nat → Nat) (I : Nat → World → Prop) (J : World → Prop) (w : World) (hq : Told f cs E m n q I J) (h0 : I 0 w) (hn : n ≤ 1000000) :
    Calls Tryz.prog 65 #[.int .i64 (n : Int), .func (.func f) #[] cs] w fun r w' => (∃ v, r = .returned v ∧ IsErr w' E v (firstQ q n).1 (firstQ q n).2) ∧ ((firstQ q n).1 = 0 → I n w') ∧ ((firstQ q n).1 ≠ 0 → J w') := by
  have heg := hq.enters
  have HQ : Hid (Told f cs E m n q I J) := hq
  have H0 : Hid (I 0 w) := h0
  clear hq h0
  go_enter Tryz.func65, Tryz.ntmps65
  go_wp2_with fail
  go_loopw [8] (fun i wr => ∃ (j : Nat), i = .int .i64 j ∧ Hid (j ≤ firstN (fun k => decide (q k ≠ 0)) n ∧ I j wr) ∧ j ≤ n) (fun i _ => n - (intOf i).toNat)
  case atStart => exact ⟨0, rfl, ⟨Nat.zero_le _, H0.out⟩, Nat.zero_le _⟩
  case round =>
    obtain ⟨j, rfl, HK, hjl⟩ := hrel
    by_cases hlt : j < n
    · have q3 : (j : Int) < n := by omega
      obtain ⟨HC⟩ : Nonempty (Hid (Calls _ _ _ _ _)) := ⟨HQ.out.says j wr hlt HK.out.2⟩
      obtain ⟨c, hc⟩ : ∃ c, Hid (q j = c) := ⟨_, show _ = _ from rfl⟩
      rw [show q j = c from hc.out] at HC
      cases c with
      | zero =>
        obtain ⟨HN⟩ : Nonempty (Hid (j + 1 ≤ firstN (fun k => decide (q k ≠ 0)) n)) := ⟨firstN_step HK.out.1 hlt (by simp [hc.out])⟩
        go_wp2_with fail
        refine HC.out.mono ?_
        rintro e w1 ⟨⟨v, d, rfl, hv⟩, hi, -⟩
        obtain ⟨-, rfl⟩ : _ ∧ v = .nilIface := by
          rcases isErr_cases hv with h | ⟨h, -⟩
          · exact h
          · omega
        obtain ⟨HI⟩ : Nonempty (Hid (I (j + 1) w1)) := ⟨hi (by simp)⟩
        clear hi hv
        go_wp2_with fail
        go_roundw
        case rel => exact ⟨j + 1, by go_num, ⟨HN.out, HI.out⟩, by omega⟩
        case measure => simp [intOf]; omega
      | succ c =>
        obtain ⟨HN⟩ : Nonempty (Hid (firstN (fun k => decide (q k ≠ 0)) n = j)) := ⟨firstN_here HK.out.1 (by simp [hc.out])⟩
        have HF : Hid (firstQ q n = (c + 1, (j : Int))) := by
          show _ = _
          unfold firstQ
          rw [HN.out, if_pos hlt, hc.out]
        go_wp2_with fail
        refine HC.out.mono ?_
        rintro e w1 ⟨⟨v, d, rfl, hv⟩, -, hj⟩
        have hJ := hj (by omega)
        obtain ⟨HB⟩ : Nonempty (Hid (Calls _ _ _ _ _)) := ⟨bare_any v (c + 1) d E m w1 (HQ.out.env _ hJ) hv (by omega)⟩
        obtain ⟨HJ⟩ : Nonempty (Hid (J w1)) := ⟨hJ⟩
        obtain ⟨t, a, rfl⟩ : ∃ t a, v = .iface t (.pointer (some a)) := by
          rcases isErr_cases hv with ⟨h, -⟩ | ⟨-, h⟩
          · omega
          · exact h
        clear hv hj hJ
        go_wp2_with fail
        refine HB.out.mono ?_
        rintro e w2 ⟨rfl, hb2⟩
        simp only [ev]
        obtain ⟨u, hu⟩ : ∃ u, Hid (E c = u) := ⟨_, show _ = _ from rfl⟩
        rw [show E c = u from hu.out]
        have HJ2 : Hid (J w2) := HQ.out.on _ _ HJ.out hb2
        clear hb2
        go_wp2_with fail
        go_ret
        rw [HF.out]
        refine ⟨⟨_, rfl, ?_⟩, fun h => by simp at h, fun _ => HQ.out.on _ _ HJ2.out (below_alloc _ _)⟩
        refine .inr ⟨by simp, by simp, w2.heap.size, rfl, ?_, ?_⟩
        · simp
        · simp [ev, hu.out]
    · obtain rfl : j = n := by omega
      have HF : Hid (firstQ q j = (0, -1)) := by
        show _ = _
        unfold firstQ
        rw [firstN_end HK.out.1, if_neg (by omega)]
      go_wp2_with fail
      go_ret
      rw [HF.out]
      exact ⟨⟨_, rfl, isErr_nil _ _⟩, fun _ => HK.out.2, fun h => absurd rfl h⟩
/-- a question that changes nothing, and answers without a place. -/
theorem firstAsk_any (n : Nat) (f : Nat) (cv : Value) (E : Nat → Addr) (m : Int) (q : Nat → Nat) (w : World) (hE : AttrEnv w E m) (hq : Asked f cv E n q w) (hn : n ≤ 1000000) :
    Calls Tryz.prog 65 #[.int .i64 (n : Int), .func (.func f) #[] #[cv]] w fun r w' => (∃ v, r = .returned v ∧ IsErr w' E v (firstQ q n).1 (firstQ q n).2) ∧ Below w.heap.size w w' := by
  refine (first_any n f #[cv] E m q (fun _ W => Below w.heap.size w W) (fun W => Below w.heap.size w W) w ⟨hq.enters, fun k W hk hb => ?_, fun W hb => hE.below hb, fun W W' hb hb' => hb.trans (hb'.mono hb.size)⟩ (Below.refl _ _) hn).mono ?_
  · refine (hq.says k W hk hb).mono ?_
    rintro r w' ⟨rfl, hb'⟩
    exact ⟨⟨_, -1, rfl, .inl ⟨rfl, rfl⟩⟩, fun _ => hb.trans (hb'.mono hb.size), fun _ => hb.trans (hb'.mono hb.size)⟩
  · rintro r w' ⟨h1, h2, h3⟩
    refine ⟨h1, ?_⟩
    by_cases h : (firstQ q n).1 = 0
    · exact h2 h
    · exact h3 h
end Go.Proofs.YtbfdgflbflajdaaGreatDoor
