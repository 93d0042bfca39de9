/-
  What package ip's texts lean on: strconv's table and bytealg's MaxLen beside the errors; strconv.Itoa, strings.Cut and strings.SplitN by their contracts, in the words of the proofs.
-/
import Derived.Test.YthehpnhjfnenoaaDoorIp2
import Derived.Test.YthehpnhjfnenoaaDoorShelf
import Derived.Lib.ItoaLen
namespace Go.Proofs.YthehpnhjfnenoaaDoor
open Go.RowKit

structure IpEnv (w : World) (et eb es : Addr) (m : Int) : Prop where
  errs : IpErrs w et eb es
  max : w.cell? ⟨10, 0, none⟩ = some (.int .i64 m)
  tab : Lib.TabIs Tryd.prog w "internal/strconv.uint64pow10" .u64 Lib.pow10Tab
  txt : w.cell? ⟨0, 0, none⟩ = some (.iface 72 (.pointer (some et)))

theorem gtab : Tryd.prog.globalNamed "internal/strconv.uint64pow10" = some 11 := by kernel_rfl
theorem tab_lt {w : World} (h : Lib.TabIs Tryd.prog w "internal/strconv.uint64pow10" .u64 Lib.pow10Tab) : 11 < w.heap.size := by
  have h' : w.var? Tryd.prog "internal/strconv.uint64pow10" = some _ := h
  unfold World.var? at h'
  simp only [gtab, Option.bind_some] at h'
  rcases Nat.lt_or_ge 11 w.heap.size with h2 | h2
  · exact h2
  · simp [Array.getElem?_eq_none h2] at h'
theorem IpEnv.below {w w' : World} {et eb es : Addr} {m : Int} (h : IpEnv w et eb es m) (hb : Below w.heap.size w w') : IpEnv w' et eb es m :=
  ⟨h.errs.below hb, cell_kept hb h.max, var?_below hb gtab (tab_lt h.tab) h.tab, cell_kept hb h.txt⟩
theorem IpEnv.alloc {w : World} {et eb es : Addr} {m : Int} (h : IpEnv w et eb es m) (o : Obj) : IpEnv (w.alloc o) et eb es m := h.below (below_alloc w o)

theorem below_grow (w : World) (k : Nat) (os : Array Obj) : Below w.heap.size w (Sort.grow (w.drewN k) os) := by
  refine ⟨rfl, rfl, rfl, ?_, fun i hi => ?_⟩
  · show w.heap.size ≤ (w.heap ++ os).size
    simp
  · show (w.heap ++ os)[i]? = _
    rw [Array.getElem?_append_left hi]

theorem ret_str {s t : ByteArray} (h : s = t) : Ending.returned (.string s) = .returned (.string t) := by rw [h]

theorem itoa_any (n : Int) (et eb es : Addr) (m : Int) (w : World) (h : IpEnv w et eb es m) (h0 : 0 ≤ n) (h1 : n ≤ 1000) :
    Calls Tryd.prog 53 #[.int .i64 n] w fun e w' => e = .returned (.string ⟨(Lib.itoa n).toArray⟩) ∧ Below w.heap.size w w' := by
  refine (Tryd.strconv_Itoa n (by omega) (by omega) w h.tab).mono ?_
  rintro e w' ⟨rfl, k, os, rfl⟩
  exact ⟨rfl, below_grow w k os⟩

theorem and255 (x : Int) (h : 0 ≤ x) (h1 : x < 4294967296) : bits .and .i64 x 255 = x % 256 :=
  bits_mask .i64 63 (by decide) wraps_i64 8 (by decide) x h (by omega)

/-- An address as text. -/
def txt4 (a : Int) : List UInt8 := Lib.itoa (a / 16777216) ++ 46 :: (Lib.itoa (a / 65536 % 256) ++ 46 :: (Lib.itoa (a / 256 % 256) ++ 46 :: Lib.itoa (a % 256)))

theorem itoa_len (n : Int) (h0 : 0 ≤ n) (h1 : n ≤ 1000) : (Lib.itoa n).length ≤ 21 := Lib.itoa_length_le n (by omega) (by omega)

theorem itoa_at (x n : Int) (l : List UInt8) (et eb es : Addr) (m : Int) (w : World) (h : IpEnv w et eb es m) (hx : x = n) (hl : Hid (Lib.itoa n = l)) (h0 : 0 ≤ n) (h1 : n ≤ 1000) :
    Calls Tryd.prog 53 #[.int .i64 x] w fun e w' => e = .returned (.string ⟨l.toArray⟩) ∧ Below w.heap.size w w' := by
  subst hx
  rw [← hl.out]
  exact itoa_any x et eb es m w h h0 h1

/-- the four numbers of an address, as the program's bits come to them. -/
theorem part0 (a : Int) (h0 : 0 ≤ a) (h1 : a < 4294967296) : bits .and .i64 (a / 16777216) 255 = a / 16777216 := by rw [and255 _ (by omega) (by omega)]; omega
theorem part1 (a : Int) (h0 : 0 ≤ a) (h1 : a < 4294967296) : bits .and .i64 (a / 65536) 255 = a / 65536 % 256 := and255 _ (by omega) (by omega)
theorem part2 (a : Int) (h0 : 0 ≤ a) (h1 : a < 4294967296) : bits .and .i64 (a / 256) 255 = a / 256 % 256 := and255 _ (by omega) (by omega)
theorem part3 (a : Int) (h0 : 0 ≤ a) (h1 : a < 4294967296) : bits .and .i64 a 255 = a % 256 := and255 _ h0 h1

set_option maxHeartbeats 1000000 in
theorem addrText_any (a : Int) (et eb es : Addr) (m : Int) (w : World) (h : IpEnv w et eb es m) (hA : isA a = true) :
    Calls Tryd.prog 25 #[.int .i64 a] w fun e w' => e = .returned (.string ⟨(txt4 a).toArray⟩) ∧ Below w.heap.size w w' := by
  obtain ⟨a0, a1⟩ := (isA_iff a).1 hA
  obtain ⟨l1, e1⟩ : ∃ l, Hid (Lib.itoa (a / 16777216) = l) := ⟨_, rfl⟩
  obtain ⟨l2, e2⟩ : ∃ l, Hid (Lib.itoa (a / 65536 % 256) = l) := ⟨_, rfl⟩
  obtain ⟨l3, e3⟩ : ∃ l, Hid (Lib.itoa (a / 256 % 256) = l) := ⟨_, rfl⟩
  obtain ⟨l4, e4⟩ : ∃ l, Hid (Lib.itoa (a % 256) = l) := ⟨_, rfl⟩
  have k1 : l1.length ≤ 21 := by rw [← e1.out]; exact itoa_len _ (by omega) (by omega)
  have k2 : l2.length ≤ 21 := by rw [← e2.out]; exact itoa_len _ (by omega) (by omega)
  have k3 : l3.length ≤ 21 := by rw [← e3.out]; exact itoa_len _ (by omega) (by omega)
  have k4 : l4.length ≤ 21 := by rw [← e4.out]; exact itoa_len _ (by omega) (by omega)
  have ht : txt4 a = l1 ++ 46 :: (l2 ++ 46 :: (l3 ++ 46 :: l4)) := by unfold txt4; rw [e1.out, e2.out, e3.out, e4.out]
  rw [ht]; clear ht
  go_enter Tryd.func25, Tryd.ntmps25
  go_wp2_with (go_at_call 46; refine (isAddr_any _ _).mono ?_; rintro e w0 ⟨rfl, hw0⟩; subst hw0)
  refine wp_loop_rounds 4 ?_
  rw [rounds_succ]
  go_wp2_with fail
  refine (itoa_at _ _ l1 et eb es m _ h (part0 a a0 a1) e1 (by omega) (by omega)).mono ?_
  rintro e w1 ⟨rfl, hb1⟩
  go_wp2
  rw [rounds_succ]
  go_wp2_with fail
  refine (itoa_at _ _ l2 et eb es m _ (h.below hb1) (part1 a a0 a1) e2 (by omega) (by omega)).mono ?_
  rintro e w2 ⟨rfl, hb2⟩
  have hb2' := hb1.trans (hb2.mono hb1.size)
  go_wp2
  rw [rounds_succ]
  go_wp2_with fail
  refine (itoa_at _ _ l3 et eb es m _ (h.below hb2') (part2 a a0 a1) e3 (by omega) (by omega)).mono ?_
  rintro e w3 ⟨rfl, hb3⟩
  have hb3' := hb2'.trans (hb3.mono hb2'.size)
  go_wp2
  rw [rounds_succ]
  go_wp2_with fail
  refine (itoa_at _ _ l4 et eb es m _ (h.below hb3') (part3 a a0 a1) e4 (by omega) (by omega)).mono ?_
  rintro e w4 ⟨rfl, hb4⟩
  have hb4' := hb3'.trans (hb4.mono hb3'.size)
  go_wp2
  go_ret
  exact ⟨ret_str (by apply ByteArray.ext; simp [ByteArray.data_append]), hb4'⟩

theorem addrText_none (a : Int) (w : World) (hA : isA a = false) :
    Calls Tryd.prog 25 #[.int .i64 a] w fun e w' => e = .returned (.string ⟨#[]⟩) ∧ w' = w := by
  go_enter Tryd.func25, Tryd.ntmps25
  go_wp2_with (go_at_call 46; refine (isAddr_any _ _).mono ?_; rintro e w0 ⟨rfl, hw0⟩; subst hw0)
  go_ret
  exact ⟨rfl, rfl⟩

theorem addrText_at (a : Int) (l : List UInt8) (et eb es : Addr) (m : Int) (w : World) (h : IpEnv w et eb es m) (hA : isA a = true) (hl : Hid (txt4 a = l)) :
    Calls Tryd.prog 25 #[.int .i64 a] w fun e w' => e = .returned (.string ⟨l.toArray⟩) ∧ Below w.heap.size w w' := by
  rw [← hl.out]
  exact addrText_any a et eb es m w h hA

/-- A prefix as text. -/
def txtP (a n : Int) : List UInt8 := txt4 a ++ 47 :: Lib.itoa n

theorem held3 {A B C : Prop} (h : A ∧ B ∧ C) : C := h.2.2
theorem Calls.since {P : Program} {f : FuncId} {args : Array Value} {W w1 : World} {R : Ending} (hW : Below W.heap.size W w1) (h : Calls P f args w1 fun e w' => e = R ∧ Below w1.heap.size w1 w') :
    Calls P f args w1 fun e w' => e = R ∧ Below W.heap.size W w' := h.mono fun _ _ ⟨he, hb⟩ => ⟨he, hW.trans (hb.mono hW.size)⟩

set_option maxHeartbeats 2000000 in
theorem text_any (a n : Int) (et eb es : Addr) (m : Int) (w : World) (h : IpEnv w et eb es m) (hr : rt a n = true) :
    Calls Tryd.prog 22 #[.agg #[.int .i64 a, .int .i64 n]] w fun e w' => e = .returned (.string ⟨(txtP a n).toArray⟩) ∧ Below w.heap.size w w' := by
  have hA := rt_isA hr
  have hl := rt_len hr
  obtain ⟨l1, e1⟩ : ∃ l, Hid (txt4 a = l) := ⟨_, rfl⟩
  obtain ⟨l2, e2⟩ : ∃ l, Hid (Lib.itoa n = l) := ⟨_, rfl⟩
  have ht : txtP a n = l1 ++ 47 :: l2 := by unfold txtP; rw [e1.out, e2.out]
  have k2 : l2.length ≤ 21 := by rw [← e2.out]; exact itoa_len _ (by omega) (by omega)
  have k1 : l1.length ≤ 100 := by
    rw [← e1.out]
    obtain ⟨a0, a1⟩ := (isA_iff a).1 hA
    have g1 := itoa_len (a / 16777216) (by omega) (by omega)
    have g2 := itoa_len (a / 65536 % 256) (by omega) (by omega)
    have g3 := itoa_len (a / 256 % 256) (by omega) (by omega)
    have g4 := itoa_len (a % 256) (by omega) (by omega)
    unfold txt4
    simp only [List.length_append, List.length_cons]
    omega
  obtain ⟨l3, e3⟩ : ∃ l, Hid (l1 ++ [47] = l) := ⟨l1 ++ [47], show _ = _ from rfl⟩
  obtain ⟨l4, e4⟩ : ∃ l, Hid (l3 ++ l2 = l) := ⟨l3 ++ l2, show _ = _ from rfl⟩
  have q1 : ∀ w, (Op.stringOp .add ⟨l1.toArray⟩ ⟨#[47]⟩).run Tryd.prog w = .ok (.string ⟨l3.toArray⟩) w := fun w => by rw [← e3.out]; exact run_string_add_lists w l1 [47] (by omega) (by simp)
  have q2 : ∀ w, (Op.stringOp .add ⟨l3.toArray⟩ ⟨l2.toArray⟩).run Tryd.prog w = .ok (.string ⟨l4.toArray⟩) w := fun w => by rw [← e4.out]; exact run_string_add_lists w l3 l2 (by rw [← e3.out]; simp; omega) (by omega)
  have ht' : l1 ++ 47 :: l2 = l4 := by rw [← e4.out, ← e3.out]; simp
  rw [ht, ht']; clear ht ht' k1 k2
  go_enter Tryd.func22, Tryd.ntmps22
  go_wp2_with fail
  refine (right_any a n et eb es _ (h.alloc _).errs).mono ?_
  rintro e w1 ⟨rfl, hb1⟩
  have hE1 : IpEnv w1 et eb es m := (h.alloc _).below hb1
  have hbw : Below w.heap.size w w1 := (below_alloc w _).trans (hb1.mono (by simp))
  have c0 : w1.cell? ⟨w.heap.size, 0, none⟩ = some (.int .i64 a) := cell_kept hb1 (by rw [World.cell?_alloc_at _ _ _ _ rfl]; rfl)
  have c1 : w1.cell? ⟨w.heap.size, 1, none⟩ = some (.int .i64 n) := cell_kept hb1 (by rw [World.cell?_alloc_at _ _ _ _ rfl]; rfl)
  have HB : Hid (Below w.heap.size w w1) := hbw
  clear hb1 hbw h
  go_wp2
  go_region_held3 (fun w' => w'.cell? ⟨w.heap.size, 0, none⟩ = some (.int .i64 a) ∧ w'.cell? ⟨w.heap.size, 1, none⟩ = some (.int .i64 n) ∧ Below w1.heap.size w1 w') (first | exact ⟨cell_kept hbk c0, cell_kept hbk c1, hbk⟩ | exact ⟨c0, c1, (Below.refl _ _).drew⟩)
    (first | (go_at_call 25; refine (Calls.since (W := w1) ?_ (addrText_at a l1 et eb es m _ ?_ hA e1)).mono ?_; (apply held3; assumption); (apply hE1.below; apply held3; assumption); rintro e w2 ⟨rfl, hbk⟩) | (go_at_call 53; refine (Calls.since (W := w1) ?_ (itoa_at n n l2 et eb es m _ ?_ rfl e2 (by omega) (by omega))).mono ?_; (apply held3; assumption); (apply hE1.below; apply held3; assumption); rintro e w2 ⟨rfl, hbk⟩))
  go_wp2
  go_ret
  exact ⟨rfl, HB.out.trans (hbk.mono HB.out.size)⟩
end Go.Proofs.YthehpnhjfnenoaaDoor
