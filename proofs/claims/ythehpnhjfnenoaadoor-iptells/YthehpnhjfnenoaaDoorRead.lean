/-
  ip.Read: what it returns at every text shorter than 2 to the 32 bytes.
-/
import Derived.Test.YthehpnhjfnenoaaDoorReadAddr
import Derived.Test.YthehpnhjfnenoaaDoorRefBase
import Derived.RegionTactic
import Derived.Laws.ResultCell
namespace Go.Proofs.YthehpnhjfnenoaaDoor
open Go.RowKit

/-- What Read comes to: the prefix's two numbers and an error's number. -/
def rdP (s : ByteArray) : Int × Int × Nat :=
  match rdAddr ⟨(Lib.cut s.data.toList [47]).1.toArray⟩ with
  | none => (0, 0, 1)
  | some a => if okNum (Lib.cut s.data.toList [47]).2.1 = true then (if chkC a (numOf (Lib.cut s.data.toList [47]).2.1) = 0 then (a, numOf (Lib.cut s.data.toList [47]).2.1, 0) else (0, 0, chkC a (numOf (Lib.cut s.data.toList [47]).2.1))) else (0, 0, 1)

theorem cut_sizes (l : List UInt8) : (Lib.cut l [47]).1.length ≤ l.length ∧ (Lib.cut l [47]).2.1.length ≤ l.length := by
  unfold Lib.cut
  split
  · simp only [List.length_take, List.length_drop]; omega
  · simp

set_option maxRecDepth 100000 in
set_option maxHeartbeats 4000000 in
theorem read_any (s : ByteArray) (et eb es : Addr) (m : Int) (w : World) (h : IpEnv w et eb es m) (hs : s.size < 4294967281) :
    Calls Tryd.prog 21 #[.string s] w fun e w' => e = .returned (.tuple #[.agg #[.int .i64 (rdP s).1, .int .i64 (rdP s).2.1], errV et eb es (rdP s).2.2]) ∧ Below w.heap.size w w' := by
  obtain ⟨x, hx⟩ : ∃ x, Hid ((Lib.cut s.data.toList [47]).1 = x) := ⟨_, show _ = _ from rfl⟩
  obtain ⟨y, hy⟩ : ∃ y, Hid ((Lib.cut s.data.toList [47]).2.1 = y) := ⟨_, show _ = _ from rfl⟩
  obtain ⟨f, hf⟩ : ∃ f, Hid ((Lib.cut s.data.toList [47]).2.2 = f) := ⟨_, show _ = _ from rfl⟩
  have hxs : (ByteArray.mk x.toArray).size < 4294967281 := by
    have h1 := (cut_sizes s.data.toList).1
    rw [hx.out, len_data] at h1
    show x.toArray.size < _
    simp; omega
  have hys : (ByteArray.mk y.toArray).size ≤ maxLen := by
    have h1 := (cut_sizes s.data.toList).2
    rw [hy.out, len_data] at h1
    show y.toArray.size ≤ _
    unfold maxLen
    simp; omega
  have HC : ∀ W : World, W.cell? ⟨10, 0, none⟩ = some (.int .i64 m) → Calls Tryd.prog 51 #[.string s, .string ⟨#[47]⟩] W fun e w' => e = .returned (.tuple #[.string ⟨x.toArray⟩, .string ⟨y.toArray⟩, .bool f]) ∧ ∃ n, w' = W.drewN n := fun W hW => by
    have := Tryd.strings_Cut s ⟨#[47]⟩ m W hs hW
    rw [show (ByteArray.mk #[47]).data.toList = [47] from rfl, hx.out, hy.out, hf.out] at this
    exact this
  have HCH := hide' HC
  clear HC
  obtain ⟨P0, hP0⟩ : ∃ z, Hid ((rdP s).1 = z) := ⟨_, show _ = _ from rfl⟩
  obtain ⟨P1, hP1⟩ : ∃ z, Hid ((rdP s).2.1 = z) := ⟨_, show _ = _ from rfl⟩
  obtain ⟨P2, hP2⟩ : ∃ z, Hid (errV et eb es (rdP s).2.2 = z) := ⟨_, show _ = _ from rfl⟩
  rw [hP0.out, hP1.out, hP2.out]
  have hbox := below_alloc w (.cells #[.int .i64 0, .int .i64 0] 36)
  have hEb := h.alloc (.cells #[.int .i64 0, .int .i64 0] 36)
  cases hra : rdAddr ⟨x.toArray⟩ with
  | none =>
    have HR : Hid (P0 = 0 ∧ P1 = 0 ∧ P2 = .iface 72 (.pointer (some et))) := by
      have : rdP s = (0, 0, 1) := by unfold rdP; rw [hx.out, hra]
      rw [← hP0.out, ← hP1.out, ← hP2.out, this]
      exact ⟨rfl, rfl, rfl⟩
    obtain ⟨rfl, rfl, rfl⟩ := HR.out
    have HRA : Hid (rdAddr ⟨x.toArray⟩ = none) := hra
    clear hra HR hP0 hP1 hP2
    go_enter Tryd.func21, Tryd.ntmps21
    go_wp2_with fail
    refine (HCH.out _ hEb.max).mono ?_
    rintro e w1 ⟨rfl, nq, rfl⟩
    go_wp2_with fail
    refine (readAddr_any ⟨x.toArray⟩ et eb es m _ (hEb.below (below_drewN (Below.refl _ _) nq)) hxs).mono ?_
    rw [HRA.out]
    rintro e w2 ⟨rfl, hb2⟩
    have hb2' : Below (w.alloc (.cells #[.int .i64 0, .int .i64 0] 36)).heap.size (w.alloc (.cells #[.int .i64 0, .int .i64 0] 36)) w2 := (below_drewN (Below.refl _ _) nq).trans hb2
    have c0 : w2.cell? ⟨w.heap.size, 0, none⟩ = some (.int .i64 0) := cell_kept hb2' (by rw [World.cell?_alloc_at _ _ _ _ rfl]; rfl)
    have c1 : w2.cell? ⟨w.heap.size, 1, none⟩ = some (.int .i64 0) := cell_kept hb2' (by rw [World.cell?_alloc_at _ _ _ _ rfl]; rfl)
    have f0 : w2.frozen? ⟨w.heap.size, 0, none⟩ = false := by rw [(bcell hb2').2 _ _ (by simp)]; simp
    have f1 : w2.frozen? ⟨w.heap.size, 1, none⟩ = false := by rw [(bcell hb2').2 _ _ (by simp)]; simp
    have HB2 : Hid (Below w.heap.size w w2) := hbox.trans (hb2'.mono hbox.size)
    clear hb2 hb2'
    go_wp2
    exact bodyPost_ret (v := .tuple #[.agg #[.int .i64 0, .int .i64 0], .iface 72 (.pointer (some et))]) (by simp [results, Tryd.results21, go_sem, c0, c1]) rfl ⟨rfl, (HB2.out.setCell (Nat.le_refl _) _).setCell (Nat.le_refl _) _⟩
  | some a =>
    have HRA : Hid (rdAddr ⟨x.toArray⟩ = some a) := hra
    cases hok : okNum y with
    | false =>
      have HR : Hid (P0 = 0 ∧ P1 = 0 ∧ P2 = .iface 72 (.pointer (some et))) := by
        have : rdP s = (0, 0, 1) := by unfold rdP; rw [hx.out, hra]; simp [hy.out, hok]
        rw [← hP0.out, ← hP1.out, ← hP2.out, this]
        exact ⟨rfl, rfl, rfl⟩
      obtain ⟨rfl, rfl, rfl⟩ := HR.out
      have HO : Hid (okNum y = false) := hok
      clear hra hok HR hP0 hP1 hP2
      go_enter Tryd.func21, Tryd.ntmps21
      go_wp2_with fail
      refine (HCH.out _ hEb.max).mono ?_
      rintro e w1 ⟨rfl, nq, rfl⟩
      go_wp2_with fail
      refine (readAddr_any ⟨x.toArray⟩ et eb es m _ (hEb.below (below_drewN (Below.refl _ _) nq)) hxs).mono ?_
      rw [HRA.out]
      rintro e w2 ⟨rfl, hb2⟩
      have hb2' : Below (w.alloc (.cells #[.int .i64 0, .int .i64 0] 36)).heap.size (w.alloc (.cells #[.int .i64 0, .int .i64 0] 36)) w2 := (below_drewN (Below.refl _ _) nq).trans hb2
      have c0 : w2.cell? ⟨w.heap.size, 0, none⟩ = some (.int .i64 0) := cell_kept hb2' (by rw [World.cell?_alloc_at _ _ _ _ rfl]; rfl)
      have c1 : w2.cell? ⟨w.heap.size, 1, none⟩ = some (.int .i64 0) := cell_kept hb2' (by rw [World.cell?_alloc_at _ _ _ _ rfl]; rfl)
      have f0 : w2.frozen? ⟨w.heap.size, 0, none⟩ = false := by rw [(bcell hb2').2 _ _ (by simp)]; simp
      have f1 : w2.frozen? ⟨w.heap.size, 1, none⟩ = false := by rw [(bcell hb2').2 _ _ (by simp)]; simp
      have HB2 : Hid (Below w.heap.size w w2) := hbox.trans (hb2'.mono hbox.size)
      have hz2 : w.heap.size < w2.heap.size := by have := hb2'.size; simp at this; omega
      have hE2 : IpEnv w2 et eb es m := hEb.below hb2'
      clear hb2 hb2'
      have gt := hE2.txt
      have gne : (0 : Nat) ≠ w.heap.size := Nat.ne_of_lt (cell_lt' h.txt)
      have gt' : ∀ u v, ((w2.setCell ⟨w.heap.size, 0, none⟩ u).setCell ⟨w.heap.size, 1, none⟩ v).cell? ⟨0, 0, none⟩ = some (.iface 72 (.pointer (some et))) := fun u v => by
        rw [World.cell?_setCell_far _ _ _ _ (Ne.symm gne), World.cell?_setCell_far _ _ _ _ (Ne.symm gne)]; exact gt
      go_wp2_with fail
      refine (readNumber_at ⟨y.toArray⟩ (numOf y) false _ hys rfl HO).mono ?_
      rintro e w3 ⟨rfl, hw3⟩
      subst hw3
      go_wp2
      go_region
      go_wp2
      exact bodyPost_ret (v := .tuple #[.agg #[.int .i64 0, .int .i64 0], .iface 72 (.pointer (some et))]) (by simp [results, Tryd.results21, go_sem, c0, c1]) rfl ⟨rfl, ((HB2.out.setCell (Nat.le_refl _) _).setCell (Nat.le_refl _) _).drew⟩
    | true =>
      have HO : Hid (okNum y = true) := hok
      obtain ⟨n, hn⟩ : ∃ n, Hid (numOf y = n) := ⟨_, show _ = _ from rfl⟩
      have hchk := chk_errV a n et eb es
      by_cases hk : chkC a n = 0
      · have HR : Hid (P0 = a ∧ P1 = n ∧ P2 = .nilIface) := by
          have : rdP s = (a, n, 0) := by unfold rdP; rw [hx.out, hra]; simp [hy.out, hok, hn.out, hk]
          rw [← hP0.out, ← hP1.out, ← hP2.out, this]
          exact ⟨rfl, rfl, rfl⟩
        obtain ⟨r0, r1, r2⟩ := HR.out
        rw [r0, r1, r2]
        clear r0 r1 r2
        have HK : Hid (chk a n eb es = .nilIface) := by rw [hchk, hk]; rfl
        clear hra hok HR hP0 hP1 hP2 hchk hk
        go_enter Tryd.func21, Tryd.ntmps21
        go_wp2_with fail
        refine (HCH.out _ hEb.max).mono ?_
        rintro e w1 ⟨rfl, nq, rfl⟩
        go_wp2_with fail
        refine (readAddr_any ⟨x.toArray⟩ et eb es m _ (hEb.below (below_drewN (Below.refl _ _) nq)) hxs).mono ?_
        rw [HRA.out]
        rintro e w2 ⟨rfl, hb2⟩
        have hb2' : Below (w.alloc (.cells #[.int .i64 0, .int .i64 0] 36)).heap.size (w.alloc (.cells #[.int .i64 0, .int .i64 0] 36)) w2 := (below_drewN (Below.refl _ _) nq).trans hb2
        have c0 : w2.cell? ⟨w.heap.size, 0, none⟩ = some (.int .i64 0) := cell_kept hb2' (by rw [World.cell?_alloc_at _ _ _ _ rfl]; rfl)
        have c1 : w2.cell? ⟨w.heap.size, 1, none⟩ = some (.int .i64 0) := cell_kept hb2' (by rw [World.cell?_alloc_at _ _ _ _ rfl]; rfl)
        have f0 : w2.frozen? ⟨w.heap.size, 0, none⟩ = false := by rw [(bcell hb2').2 _ _ (by simp)]; simp
        have f1 : w2.frozen? ⟨w.heap.size, 1, none⟩ = false := by rw [(bcell hb2').2 _ _ (by simp)]; simp
        have HB2 : Hid (Below w.heap.size w w2) := hbox.trans (hb2'.mono hbox.size)
        have hz2 : w.heap.size < w2.heap.size := by have := hb2'.size; simp at this; omega
        have hE2 : IpEnv w2 et eb es m := hEb.below hb2'
        clear hb2 hb2'
        go_wp2_with fail
        refine (readNumber_at ⟨y.toArray⟩ n true _ hys hn HO).mono ?_
        rintro e w3 ⟨rfl, hw3⟩
        subst hw3
        go_wp2_with fail
        refine (check_any a n et eb es _ (hE2.alloc _).errs).mono ?_
        rw [HK.out]
        rintro e w4 ⟨rfl, hb4⟩
        have hb4' : Below w3.heap.size w3 w4 := (below_alloc w3 _).trans (hb4.mono (by simp))
        have d0 : w4.cell? ⟨w3.heap.size, 0, none⟩ = some (.int .i64 a) := cell_kept hb4 (by rw [World.cell?_alloc_at _ _ _ _ rfl]; rfl)
        have d1 : w4.cell? ⟨w3.heap.size, 1, none⟩ = some (.int .i64 n) := cell_kept hb4 (by rw [World.cell?_alloc_at _ _ _ _ rfl]; rfl)
        have c0' := cell_kept hb4' c0
        have c1' := cell_kept hb4' c1
        have f0' : w4.frozen? ⟨w.heap.size, 0, none⟩ = false := by rw [(bcell hb4').2 _ _ hz2]; exact f0
        have f1' : w4.frozen? ⟨w.heap.size, 1, none⟩ = false := by rw [(bcell hb4').2 _ _ hz2]; exact f1
        have HB4 : Hid (Below w.heap.size w w4) := HB2.out.trans (hb4'.mono HB2.out.size)
        clear hb4 hb4' c0 c1 f0 f1
        go_wp2
        exact bodyPost_ret (v := .tuple #[.agg #[.int .i64 a, .int .i64 n], .nilIface]) (by simp [results, Tryd.results21, go_sem, c0', c1']) rfl ⟨rfl, (HB4.out.setCell (Nat.le_refl _) _).setCell (Nat.le_refl _) _⟩
      · obtain ⟨xe, hxe⟩ : ∃ xe, errV et eb es (chkC a n) = .iface 72 (.pointer (some xe)) := by
          generalize chkC a n = c at hk
          match c, hk with
          | 1, _ => exact ⟨et, rfl⟩
          | 2, _ => exact ⟨eb, rfl⟩
          | c + 3, _ => exact ⟨es, rfl⟩
        have HR : Hid (P0 = 0 ∧ P1 = 0 ∧ P2 = .iface 72 (.pointer (some xe))) := by
          have : rdP s = (0, 0, chkC a n) := by unfold rdP; rw [hx.out, hra]; simp [hy.out, hok, hn.out, hk]
          rw [← hP0.out, ← hP1.out, ← hP2.out, this]
          exact ⟨rfl, rfl, hxe⟩
        obtain ⟨r0, r1, r2⟩ := HR.out
        rw [r0, r1, r2]
        clear r0 r1 r2
        have HK : Hid (chk a n eb es = .iface 72 (.pointer (some xe))) := by rw [hchk, hxe]; rfl
        clear hra hok HR hP0 hP1 hP2 hchk hk hxe
        go_enter Tryd.func21, Tryd.ntmps21
        go_wp2_with fail
        refine (HCH.out _ hEb.max).mono ?_
        rintro e w1 ⟨rfl, nq, rfl⟩
        go_wp2_with fail
        refine (readAddr_any ⟨x.toArray⟩ et eb es m _ (hEb.below (below_drewN (Below.refl _ _) nq)) hxs).mono ?_
        rw [HRA.out]
        rintro e w2 ⟨rfl, hb2⟩
        have hb2' : Below (w.alloc (.cells #[.int .i64 0, .int .i64 0] 36)).heap.size (w.alloc (.cells #[.int .i64 0, .int .i64 0] 36)) w2 := (below_drewN (Below.refl _ _) nq).trans hb2
        have c0 : w2.cell? ⟨w.heap.size, 0, none⟩ = some (.int .i64 0) := cell_kept hb2' (by rw [World.cell?_alloc_at _ _ _ _ rfl]; rfl)
        have c1 : w2.cell? ⟨w.heap.size, 1, none⟩ = some (.int .i64 0) := cell_kept hb2' (by rw [World.cell?_alloc_at _ _ _ _ rfl]; rfl)
        have f0 : w2.frozen? ⟨w.heap.size, 0, none⟩ = false := by rw [(bcell hb2').2 _ _ (by simp)]; simp
        have f1 : w2.frozen? ⟨w.heap.size, 1, none⟩ = false := by rw [(bcell hb2').2 _ _ (by simp)]; simp
        have HB2 : Hid (Below w.heap.size w w2) := hbox.trans (hb2'.mono hbox.size)
        have hz2 : w.heap.size < w2.heap.size := by have := hb2'.size; simp at this; omega
        have hE2 : IpEnv w2 et eb es m := hEb.below hb2'
        clear hb2 hb2'
        go_wp2_with fail
        refine (readNumber_at ⟨y.toArray⟩ n true _ hys hn HO).mono ?_
        rintro e w3 ⟨rfl, hw3⟩
        subst hw3
        go_wp2_with fail
        refine (check_any a n et eb es _ (hE2.alloc _).errs).mono ?_
        rw [HK.out]
        rintro e w4 ⟨rfl, hb4⟩
        have hb4' : Below w3.heap.size w3 w4 := (below_alloc w3 _).trans (hb4.mono (by simp))
        have c0' := cell_kept hb4' c0
        have c1' := cell_kept hb4' c1
        have f0' : w4.frozen? ⟨w.heap.size, 0, none⟩ = false := by rw [(bcell hb4').2 _ _ hz2]; exact f0
        have f1' : w4.frozen? ⟨w.heap.size, 1, none⟩ = false := by rw [(bcell hb4').2 _ _ hz2]; exact f1
        have HB4 : Hid (Below w.heap.size w w4) := HB2.out.trans (hb4'.mono HB2.out.size)
        clear hb4 hb4' c0 c1 f0 f1
        go_wp2
        exact bodyPost_ret (v := .tuple #[.agg #[.int .i64 0, .int .i64 0], .iface 72 (.pointer (some xe))]) (by simp [results, Tryd.results21, go_sem, c0', c1']) rfl ⟨rfl, (HB4.out.setCell (Nat.le_refl _) _).setCell (Nat.le_refl _) _⟩
end Go.Proofs.YthehpnhjfnenoaaDoor
