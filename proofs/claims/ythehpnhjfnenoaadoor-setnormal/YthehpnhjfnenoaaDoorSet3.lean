/-
  Package set's prefixesOf: spans as their widest prefixes.
-/
import Derived.Test.YthehpnhjfnenoaaDoorSet2
import Derived.Test.YthehpnhjfnenoaaDoorWidest
import Derived.Deep.RegionWith
namespace Go.Proofs.YthehpnhjfnenoaaDoor
open Go.RowKit

/-- what package set reads besides its arguments: two errors, and a table of the library's. -/
structure SetEnv (w : World) (et eb es : Addr) : Prop where
  errs : IpErrs w et eb es
  tab : Lib.TabIs Tryd.prog w "math/bits.deBruijn64tab" .u8 dbTab
theorem SetEnv.below {w w' : World} {et eb es : Addr} (h : SetEnv w et eb es) (hb : Below w.heap.size w w') : SetEnv w' et eb es := ⟨h.errs.below hb, tab_below h.tab hb⟩
theorem SetEnv.at {w w' : World} {B : Nat} {et eb es : Addr} (h : SetEnv w et eb es) (hb : Below B w w') (hB : w.heap.size = B) : SetEnv w' et eb es := h.below (hB ▸ hb)

/-- prefixesOf's outer loop: k spans are done. -/
structure PreAt (S : List (Int × Int)) (k : Nat) (L : List (Int × Int)) : Prop where
  hk : k ≤ S.length
  tiled : Tiled (S.take k) L
  few : ∀ h : k < S.length, (L.length : Int) ≤ S[k].1
/-- .. its inner loop: of the span (f0, e) all below f is done. -/
structure InAt (f0 e f : Int) (n : Nat) (M : List (Int × Int)) : Prop where
  le : f0 ≤ f ∧ f ≤ e
  few : ((n + M.length : Nat) : Int) ≤ f
  rest : ∀ R, Tile f e R → Tile f0 e (M ++ R)
theorem inAt_start (f0 e : Int) (n : Nat) (h : (n : Int) ≤ f0) (h2 : f0 < e) : InAt f0 e f0 n [] := ⟨⟨Int.le_refl _, by omega⟩, by simpa using h, fun R h => h⟩
theorem InAt.step {f0 e f : Int} {n : Nat} {M : List (Int × Int)} (h : InAt f0 e f n M) {m : Int} (hw : Wid f e m) : InAt f0 e (f + pw m) n (M ++ [(f, m)]) := by
  have hp := pw_pos m
  refine ⟨⟨by have := h.le; omega, hw.2.2.1⟩, ?_, fun R hR => ?_⟩
  · have := h.few
    simp only [List.length_append, List.length_cons, List.length_nil] at this ⊢
    omega
  · rw [List.append_assoc]
    exact h.rest _ (Tile.cons hw hR)
theorem PreAt.step {S L M : List (Int × Int)} {k : Nat} {f : Int} (hS : Sep S) (h : PreAt S k L) (hk : k < S.length) (hM : InAt S[k].1 S[k].2 f L.length M) (hf : ¬ f < S[k].2) : PreAt S (k + 1) (L ++ M) := by
  have he : f = S[k].2 := by have := hM.le; omega
  refine ⟨hk, ?_, fun h1 => ?_⟩
  · rw [List.take_succ_eq_append_getElem hk]
    refine h.tiled.snoc ?_
    have := hM.rest [] (he ▸ Tile.nil _)
    simpa using this
  · have hd := sep_drop hS k
    rw [List.drop_eq_getElem_cons hk] at hd
    have := hd.2.1 S[k + 1] (by rw [List.drop_eq_getElem_cons h1]; exact List.mem_cons_self)
    have h2 := hM.few
    simp only [List.length_append] at h2 ⊢
    omega
theorem IpErrs.drewN {w : World} {et eb es : Addr} (h : IpErrs w et eb es) (n : Nat) : IpErrs (w.drewN n) et eb es := ⟨h.text, h.bound, h.shape⟩
/-- a box of another type is no part of an owned row. -/
theorem box_apart {w : World} {B b n : Nat} {e t : TypeId} {v : Value} {xs : List Value} {c : Array Value} (h : w.ownsRow B e 2 v n xs) (hb : w.heap[b]? = some (.cells c t (0, 0))) (hne : t ≠ e) : some b ≠ v.ownBlock := by
  intro he
  rcases h.2 with ⟨hv, -⟩ | ⟨g, cap, cur, hv, -, hg, -⟩
  · rw [hv] at he; cases he
  · rw [hv] at he
    simp only [Value.ownBlock, Option.some.injEq] at he
    subst he
    rw [hb] at hg
    simp only [Option.some.injEq, Obj.cells.injEq] at hg
    exact hne hg.2.1
theorem pre_store {B b n : Nat} {T T' : TypeId} {w w3 w4 : World} {v : Value} {xs : List Value} {f e x : Int} (hX : w3.heap[b]? = some (.cells #[.int .i64 f, .int .i64 e] T (0, 0))) (hown : w3.ownsRow B T' 2 v n xs) (hne : T ≠ T')
    (hnx : Below B w w3) (hb : Below w3.heap.size w3 w4) (hB : B ≤ b) :
    (w4.setCell ⟨b, 0, none⟩ (.int .i64 x)).heap[b]? = some (.cells #[.int .i64 x, .int .i64 e] T (0, 0)) ∧ (w4.setCell ⟨b, 0, none⟩ (.int .i64 x)).ownsRow B T' 2 v n xs ∧ Below B w (w4.setCell ⟨b, 0, none⟩ (.int .i64 x)) := by
  have hlt : b < w3.heap.size := (Array.getElem?_eq_some_iff.1 hX).1
  have h4 : w4.heap[b]? = some (.cells #[.int .i64 f, .int .i64 e] T (0, 0)) := by rw [hb.block b hlt]; exact hX
  have ho4 : w4.ownsRow B T' 2 v n xs := hown.kept (row := none) ⟨hb.os, hb.tape, hb.output, hb.size, fun k hk _ => hb.block k hk⟩ (by cases v.ownBlock <;> simp)
  have hap := box_apart ho4 h4 hne
  have hBw : B ≤ w3.heap.size := by omega
  refine ⟨heap_setCell_same w4 b 0 _ T _ h4, ho4.kept (row := some b) ⟨rfl, rfl, rfl, by simp, fun k _ hk => heap_setCell_other w4 ⟨b, 0, none⟩ k _ (fun e => hk (by simp [e]))⟩ (.inr (fun e => hap e.symm)), (hnx.trans (hb.mono hBw)).setCell hB _⟩
theorem row_cells {w : World} {b : Nat} {t : TypeId} {x y : Value} (h : w.heap[b]? = some (.cells #[x, y] t (0, 0))) : w.cell? ⟨b, 0, none⟩ = some x ∧ w.cell? ⟨b, 1, none⟩ = some y ∧ w.frozen? ⟨b, 0, none⟩ = false ∧ w.frozen? ⟨b, 1, none⟩ = false ∧ b < w.heap.size :=
  ⟨by rw [cell_of_row w b 0 _ t (0, 0) h]; rfl, by rw [cell_of_row w b 1 _ t (0, 0) h]; rfl, frozen_of_row w b 0 _ t h, frozen_of_row w b 1 _ t h, (Array.getElem?_eq_some_iff.1 h).1⟩

set_option linter.unusedVariables false in
set_option maxRecDepth 100000 in
set_option maxHeartbeats 8000000 in
theorem prefixesOf_any (S : List (Int × Int)) (p : Option Addr) (cap : Nat) (et eb es : Addr) (w : World) (hE : SetEnv w et eb es) (hs : Pairs w p S) (hl : S.length ≤ 1099511627776) (hS : Sep S) (hbd : ∀ s ∈ S, 0 ≤ s.1 ∧ s.2 ≤ 4294967296) :
    Calls Tryd.prog 61 #[.slice p S.length cap] w fun e w' => (∃ L v, e = .returned v ∧ Tiled S L ∧ w'.ownsRow w.heap.size 36 2 v L.length (flat2 L)) ∧ Below w.heap.size w w' := by
  obtain ⟨i0, hi, hz0, hz1, hz2⟩ := info_parts infoPre
  obtain ⟨B, hB⟩ : ∃ B, Hid (w.heap.size = B) := ⟨_, show _ = _ from rfl⟩
  rw [show w.heap.size = B from hB.out]
  have HE : Hid (SetEnv w et eb es) := hE
  have HS : Hid (Pairs w p S) := hs
  have HB : Hid (∀ s ∈ S, 0 ≤ s.1 ∧ s.2 ≤ 4294967296) := hbd
  have HSep : Hid (Sep S) := hS
  clear hs hE hbd hS
  go_enter Tryd.func61, Tryd.ntmps61
  go_wp2
  go_loopw [3, 9] (fun v i wr => ∃ (k : Nat) (L : List (Int × Int)), i = .int .i64 k ∧ Hid (PreAt S k L) ∧ wr.ownsRow B 36 2 v L.length (flat2 L) ∧ Below B w wr) (fun _ i _ => S.length - (intOf i).toNat)
  case atStart => exact ⟨0, [], rfl, ⟨by simp, Tiled.nil, fun h => by have := (HB.out S[0] (List.getElem_mem h)).1; simpa using this⟩, World.ownsRow_nil _ _ _ _, Below.refl _ _⟩
  case round =>
    obtain ⟨k, L, rfl, HJ, hown, hnx⟩ := hrel
    have hBw : B ≤ wr.heap.size := by rw [← hB.out]; exact hnx.size
    have hkl : k ≤ S.length := HJ.out.hk
    by_cases hlt : k < S.length
    · obtain ⟨b, o, rfl, c0, c1⟩ := HS.out k hlt
      have c0' : wr.cell? ⟨b, o + k * 2, none⟩ = some (.int .i64 S[k].1) := by rw [hnx.cell (by rw [← hB.out]; exact cell_lt' c0)]; exact c0
      have c1' : wr.cell? ⟨b, o + k * 2 + 1, none⟩ = some (.int .i64 S[k].2) := by rw [hnx.cell (by rw [← hB.out]; exact cell_lt' c1)]; exact c1
      have hbw : b < wr.heap.size := cell_lt' c0'
      have hbk := HB.out S[k] (List.getElem_mem hlt)
      have hsk := HSep.out.mem S[k] (List.getElem_mem hlt)
      have hfw := HJ.out.few hlt
      clear c0 c1
      obtain ⟨f0, hf0⟩ : ∃ f0, Hid (S[k].1 = f0) := ⟨_, show _ = _ from rfl⟩
      obtain ⟨e, he⟩ : ∃ e, Hid (S[k].2 = e) := ⟨_, show _ = _ from rfl⟩
      rw [show S[k].1 = f0 from hf0.out] at c0' hbk hsk hfw
      rw [show S[k].2 = e from he.out] at c1' hbk hsk
      obtain ⟨b5, hb5⟩ : ∃ b5, Hid (wr.heap.size = b5) := ⟨_, show _ = _ from rfl⟩
      have hX0 : Hid ((wr.alloc (.cells #[.int .i64 f0, .int .i64 e] 93)).heap[b5]? = some (.cells #[.int .i64 f0, .int .i64 e] 93 (0, 0))) := by
        rw [← show wr.heap.size = b5 from hb5.out]; exact Go.heap_alloc_new wr _
      have hown1 := hown.alloc (.cells #[.int .i64 f0, .int .i64 e] 93)
      have hnx1 := hnx.alloc hBw (.cells #[.int .i64 f0, .int .i64 e] 93)
      have hBb : B ≤ b5 := by rw [← show wr.heap.size = b5 from hb5.out]; exact hBw
      go_wp2
      rw [show wr.heap.size = b5 from hb5.out]
      clear hown hnx c0' c1'
      go_loopw [3] (fun v wx => ∃ (f : Int) (M L2 : List (Int × Int)), Hid (InAt f0 e f L.length M) ∧ Hid (L2 = L ++ M) ∧ Hid (wx.heap[b5]? = some (.cells #[.int .i64 f, .int .i64 e] 93 (0, 0))) ∧ wx.ownsRow B 36 2 v L2.length (flat2 L2) ∧ Below B w wx) (fun _ wx => (e - intOf ((wx.cell? ⟨b5, 0, none⟩).getD (.int .i64 0))).toNat)
      case atStart => exact ⟨f0, [], L, inAt_start f0 e _ hfw hsk, by simp [Hid], hX0.out, hown1, hnx1⟩
      case round =>
        clear hown1 hnx1 hX0 hBw hbw hb5
        obtain ⟨f, M, L2, HI, HL, HX, hown2, hnx2⟩ := hrel
        obtain ⟨x0, x1, fz0, fz1, hxl⟩ := row_cells HX.out
        have HX0 : Hid (wr.cell? ⟨b5, 0, none⟩ = some (.int .i64 f)) := x0
        have hle := HI.out.le
        have hBw : B ≤ wr.heap.size := by rw [← hB.out]; exact hnx2.size
        have hL2 : (L2.length : Int) ≤ f := by rw [HL.out]; have := HI.out.few; simpa using this
        by_cases hfe : f < e
        · have HW : Hid (Calls Tryd.prog 82 #[.agg #[.int .i64 f, .int .i64 e]] wr fun r w' => (∃ n : Int, r = .returned (.agg #[.int .i64 f, .int .i64 n]) ∧ Wid f e n) ∧ Below wr.heap.size wr w') := widest_any f e wr (by omega) hfe (by omega) ((HE.out.at hnx2 hB.out).tab)
          go_wp2_with fail
          refine HW.out.mono ?_
          rintro r w2 ⟨⟨n, rfl, hwid⟩, hb2⟩
          have hap : some b5 ≠ u3.ownBlock := box_apart hown2 HX.out (by decide)
          have hg : ∀ g, u3.ownBlock = some g → g < wr.heap.size := fun g hg => (hown2.lt g hg).2
          obtain ⟨HWD⟩ : Nonempty (Hid (Wid f e n)) := ⟨hwid⟩
          have hrt : rt f n = true := (rt_iff f n).2 ⟨by omega, hwid.1, hwid.2.1⟩
          have hnx3 := hnx2.trans (hb2.mono hBw)
          have hBw2 : B ≤ w2.heap.size := Nat.le_trans hBw hb2.size
          have hown3 := hown2.kept (w' := w2) (row := none) ⟨hb2.os, hb2.tape, hb2.output, hb2.size, fun k hk _ => hb2.block k hk⟩ (by cases u3.ownBlock <;> simp)
          have hX2 : Hid (w2.heap[b5]? = some (.cells #[.int .i64 f, .int .i64 e] 93 (0, 0))) := by rw [Hid, hb2.block b5 hxl]; exact HX.out
          obtain ⟨O', HO'⟩ : ∃ O', Hid (L2 ++ [(f, n)] = O') := ⟨_, show _ = _ from rfl⟩
          have hown4 := hown3.alloc (.cells #[.int .i64 f, .int .i64 n] 36)
          have hwn : Hid (f + pw n ≤ e) := hwid.2.2.1
          clear hwid hown2 hown3 x0 x1 fz0 fz1 HX
          go_wp2_with (at_builtin; refine wp_push rfl _ _ 60 rfl B 36 i0 Tryd.underlying60 hi hz0 hz1 hz2 _ L2 rfl hown4 f n _ rfl (by simp) O' HO' (by omega) (by simp; omega) ?_)
          rintro v' w3 hown5 hb3 hkeep
          have hX3 : w3.heap[b5]? = some (.cells #[.int .i64 f, .int .i64 e] 93 (0, 0)) := by
            have hlt2 := Nat.lt_of_lt_of_le hxl hb2.size
            rw [hkeep.1 b5 (by simp; omega) hap, Below.heap_alloc _ _ _ hlt2]; exact hX2.out
          obtain ⟨b6, hb6⟩ : ∃ b6, Hid (w2.heap.size = b6) := ⟨_, show _ = _ from rfl⟩
          have hP3 : w3.heap[b6]? = some (.cells #[.int .i64 f, .int .i64 n] 36 (0, 0)) := by
            rw [← show w2.heap.size = b6 from hb6.out, hkeep.1 w2.heap.size (by simp) (fun he => by have := hg _ he.symm; have := hb2.size; omega)]
            exact Go.heap_alloc_new w2 _
          have hnx4 : Below B w w3 := (hnx3.alloc hBw2 _).trans hb3
          rw [show w2.heap.size = b6 from hb6.out]
          have hE3 := (HE.out.at hnx4 hB.out).errs
          obtain ⟨sz, hsz⟩ : ∃ sz, Hid (sizeI f n = sz) := ⟨_, show _ = _ from rfl⟩
          have hszp : sz = pw n := by rw [← hsz.out]; simp [sizeI, hrt]
          obtain ⟨HSP⟩ : Nonempty (Hid (sz = pw n)) := ⟨hszp⟩
          have hpp : 1 ≤ sz ∧ f + sz ≤ e := by rw [hszp]; exact ⟨pw_pos n, hwn.out⟩
          have HSZ : Hid (∀ W : World, IpErrs W et eb es → Calls Tryd.prog 18 #[.agg #[.int .i64 f, .int .i64 n]] W fun r w' => r = .returned (.int .i64 sz) ∧ Below W.heap.size W w') := fun W hW => by rw [← hsz.out]; exact size_any f n et eb es W hW
          have hws : IntKind.i64.wrap (f + sz) = f + sz := wrapI _ (by omega) (by omega)
          obtain ⟨x0, x1, fz0, fz1, hx5⟩ := row_cells hX3
          obtain ⟨p0, p1, -, -, hx6⟩ := row_cells hP3
          clear hszp hkeep hown4 hnx3 hb3 hX2 HW
          go_wp2
          go_region_with (go_at_call 18; refine (HSZ.out _ (IpErrs.drewN hE3 _)).mono ?_; rintro r w4 ⟨rfl, hb4⟩; have y0 := cell_kept hb4 x0; have z0 : w4.frozen? ⟨b5, 0, none⟩ = false := ((bcell hb4).2 b5 0 hx5).trans fz0)
          all_goals
            have R := pre_store (x := f + sz) hX3 hown5 (by decide) hnx4 (w4 := w4) ((below_drewN (Below.refl _ w3) _).trans hb4) hBb
            obtain ⟨HR⟩ : Nonempty (Hid (_ ∧ _ ∧ _)) := ⟨R⟩
            generalize w4.setCell ⟨b5, 0, none⟩ (.int .i64 (f + sz)) = w5 at HR ⊢
            clear R hX3 hP3 hown5 hnx4 hb4 hE3 x0 x1 fz0 fz1 p0 p1 y0 z0 hnx2
            go_wp2
            go_roundw
            case rel =>
              refine ⟨f + sz, M ++ [(f, n)], O', ?_, ?_, HR.out.1, HR.out.2.1, HR.out.2.2⟩
              · rw [HSP.out]; exact HI.out.step HWD.out
              · rw [Hid, ← HO'.out, HL.out, List.append_assoc]
            case measure =>
              rw [(row_cells HR.out.1).1, HX0.out]
              simp only [Option.getD_some, intOf]
              omega
        · have hst := HJ.out.step HSep.out hlt (by rw [show S[k].1 = f0 from hf0.out, show S[k].2 = e from he.out]; exact HI.out) (by rw [show S[k].2 = e from he.out]; exact hfe)
          obtain ⟨HJ2⟩ : Nonempty (Hid (PreAt S (k + 1) L2)) := ⟨by rw [HL.out]; exact hst⟩
          clear hst
          go_wp2
          go_roundw
          case rel => exact ⟨k + 1, L2, by go_num, HJ2.out, hown2, hnx2⟩
          case measure => simp [intOf]; omega
    · obtain ⟨q, cap2, rfl, -, -, -⟩ := own_pairs hown
      have hT := HJ.out.tiled
      rw [List.take_of_length_le (by omega)] at hT
      obtain ⟨HT⟩ : Nonempty (Hid (Tiled S L)) := ⟨hT⟩
      clear hT
      go_wp2
      go_ret
      exact ⟨⟨L, _, rfl, HT.out, hown⟩, hnx⟩
end Go.Proofs.YthehpnhjfnenoaaDoor
