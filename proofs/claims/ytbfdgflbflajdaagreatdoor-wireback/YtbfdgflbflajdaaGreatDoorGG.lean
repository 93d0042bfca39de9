/-
  number.Read: what it returns at every text.
  What package ip's texts lean on: strconv's table and bytealg's MaxLen beside the errors; strconv.Itoa, strings.Cut and strings.SplitN by their contracts, in the words of the proofs.
  ip.ReadAddr: what it returns at every text shorter than 2 to the 32 bytes.
  Check's answer as the number of an error; a box that was just made.
  ip.Read: what it returns at every text shorter than 2 to the 32 bytes.
-/
import Derived.Test.YtbfdgflbflajdaaGreatDoorGC
import Derived.Test.YtbfdgflbflajdaaGreatDoorGF
import Derived.Test.YtbfdgflbflajdaaGreatDoorShelf
import Derived.Lib.ItoaLen
import Derived.RegionTactic
import Derived.Laws.ResultCell
namespace Go.Proofs.YtbfdgflbflajdaaGreatDoor
open Go.RowKit

set_option maxHeartbeats 1000000 in
theorem number_any (s : ByteArray) (w : World) (hs : s.size ≤ maxLen) :
    Calls Tryz.prog 80 #[.string s] w fun e w' => e = .returned (.tuple #[.int .i64 (numOf s.data.toList), .bool (okNum s.data.toList)]) ∧ w' = w := by
  unfold maxLen at hs
  by_cases h0 : s.size = 0
  · have hok := okNum_short s.data.toList (by rw [len_data]; exact h0)
    rw [hok, numOf_not hok]; clear hok
    have hem := isEmpty_of s h0
    clear h0
    go_enter Tryz.func80, Tryz.ntmps80
    go_wp2
    go_ret2
    exact ⟨rfl, rfl⟩
  have hpos : 1 ≤ s.size := by omega
  have hem := isEmpty_not s hpos
  clear h0
  by_cases h9 : ¬ s.size ≤ 9
  · have hok := okNum_long s.data.toList (by rw [len_data]; exact h9)
    rw [hok, numOf_not hok]; clear hok
    go_enter Tryz.func80, Tryz.ntmps80
    go_wp2
    go_ret2
    exact ⟨rfl, rfl⟩
  replace h9 : s.size ≤ 9 := by omega
  by_cases hz : s[0] = 48 ∧ 1 < s.size
  · have hok := okNum_zero s.data.toList (by rw [head_data s (by omega), hz.1]) (by rw [len_data]; exact hz.2)
    rw [hok, numOf_not hok]; clear hok
    have hz0 : ((s[0].toNat : Int) == 48) = true := by rw [hz.1]; rfl
    have hz1 := hz.2
    clear hz
    go_enter Tryz.func80, Tryz.ntmps80
    go_wp2
    go_ret2
    exact ⟨rfl, rfl⟩
  have HZ : Hid (¬ (s[0] = 48 ∧ 1 < s.size)) := hz
  have hgo : (((s[0].toNat : Int) == 48) = true ∧ s.size ≤ 1) ∨ ((s[0].toNat : Int) == 48) = false := by
    by_cases h : s[0] = 48
    · exact Or.inl ⟨by rw [h]; rfl, by have : ¬ 1 < s.size := fun h' => hz ⟨h, h'⟩; omega⟩
    · right
      rw [beq_eq_false_iff_ne]
      intro e
      exact h (UInt8.toNat_inj.1 (show s[0].toNat = 48 by omega))
  clear hz
  rcases hgo with ⟨hz0, hz1⟩ | hz0
  all_goals
    go_enter Tryz.func80, Tryz.ntmps80
    go_wp2
    go_loop [4, 5] (fun n i => ∃ k : Nat, k ≤ s.size ∧ i = .int .i64 k ∧ n = .int .i64 (valD (s.data.toList.take k)) ∧ (s.data.toList.take k).all digB = true) (fun _ i => s.size - (intOf i).toNat)
    case atStart => exact ⟨0, Nat.zero_le _, rfl, rfl, rfl⟩
    case round =>
      obtain ⟨k, hk, rfl, rfl, hdk⟩ := hrel
      have HD : Hid ((s.data.toList.take k).all digB = true) := hdk
      clear hdk
      by_cases hlt : k < s.size
      · have hv := valD_le8 (s.data.toList.take k) (by rw [List.length_take, len_data]; omega) HD.out
        obtain ⟨v, hvv⟩ : ∃ v, Hid (valD (s.data.toList.take k) = v) := ⟨_, show _ = _ from rfl⟩
        rw [hvv.out] at hv ⊢
        go_wp2
        · go_ret2
          have hok := okNum_bad s k hlt (by omega)
          rw [hok, numOf_not hok]
          exact ⟨rfl, rfl⟩
        · go_round
          case rel => exact ⟨k + 1, by omega, by go_num, by rw [take_snoc s k hlt, valD_snoc, hvv.out], by rw [take_snoc s k hlt, List.all_append, HD.out, digB_yes s[k] (by omega)]; rfl⟩
          case measure => simp [intOf]; omega
        · go_ret2
          have hok := okNum_bad s k hlt (by omega)
          rw [hok, numOf_not hok]
          exact ⟨rfl, rfl⟩
      · go_wp2
        go_ret2
        have hkk : k = s.size := by omega
        have hall : s.data.toList.take k = s.data.toList := List.take_of_length_le (by rw [len_data]; omega)
        have hd := HD.out
        rw [hall] at hd
        have hok := okNum_yes s.data.toList (by rw [len_data]; omega) (by rw [len_data]; omega) (by rw [head_data s (by omega), len_data]; exact fun h => HZ.out ⟨Option.some.inj h.1, h.2⟩) hd
        rw [hok, numOf_yes hok]
        exact ⟨by rw [hall]; rfl, rfl⟩
end Go.Proofs.YtbfdgflbflajdaaGreatDoor

namespace Go.Proofs.YtbfdgflbflajdaaGreatDoor
open Go.RowKit

structure IpEnv (w : World) (et eb es : Addr) (m : Int) : Prop where
  errs : IpErrs w et eb es
  max : w.cell? ⟨10, 0, none⟩ = some (.int .i64 m)
  tab : Lib.TabIs Tryz.prog w "internal/strconv.uint64pow10" .u64 Lib.pow10Tab
  txt : w.cell? ⟨2, 0, none⟩ = some (.iface 224 (.pointer (some et)))

theorem gtab : Tryz.prog.globalNamed "internal/strconv.uint64pow10" = some 11 := by kernel_rfl
theorem tab_lt {w : World} (h : Lib.TabIs Tryz.prog w "internal/strconv.uint64pow10" .u64 Lib.pow10Tab) : 11 < w.heap.size := by
  have h' : w.var? Tryz.prog "internal/strconv.uint64pow10" = some _ := h
  unfold World.var? at h'
  simp only [gtab, Option.bind_some] at h'
  rcases Nat.lt_or_ge 11 w.heap.size with h2 | h2
  · exact h2
  · simp [Array.getElem?_eq_none h2] at h'
theorem IpEnv.below {w w' : World} {et eb es : Addr} {m : Int} (h : IpEnv w et eb es m) (hb : Below w.heap.size w w') : IpEnv w' et eb es m :=
  ⟨h.errs.below hb, cell_kept hb h.max, var?_below hb gtab (tab_lt h.tab) h.tab, cell_kept hb h.txt⟩
theorem IpEnv.alloc {w : World} {et eb es : Addr} {m : Int} (h : IpEnv w et eb es m) (o : Obj) : IpEnv (w.alloc o) et eb es m := h.below (below_alloc w o)

theorem below_grow (w : World) (k : Nat) (os : Array Obj) : Below w.heap.size w (Sort.grow (w.drewN k) os) := by
  refine ⟨rfl, rfl, rfl, ?_, fun i hi => ?_⟩
  · show w.heap.size ≤ (w.heap ++ os).size
    simp
  · show (w.heap ++ os)[i]? = _
    rw [Array.getElem?_append_left hi]

theorem ret_str {s t : ByteArray} (h : s = t) : Ending.returned (.string s) = .returned (.string t) := by rw [h]

theorem itoa_any (n : Int) (et eb es : Addr) (m : Int) (w : World) (h : IpEnv w et eb es m) (h0 : 0 ≤ n) (h1 : n ≤ 1000) :
    Calls Tryz.prog 39 #[.int .i64 n] w fun e w' => e = .returned (.string ⟨(Lib.itoa n).toArray⟩) ∧ Below w.heap.size w w' := by
  refine (Tryz.strconv_Itoa n (by omega) (by omega) w h.tab).mono ?_
  rintro e w' ⟨rfl, k, os, rfl⟩
  exact ⟨rfl, below_grow w k os⟩

theorem and255 (x : Int) (h : 0 ≤ x) (h1 : x < 4294967296) : bits .and .i64 x 255 = x % 256 :=
  bits_mask .i64 63 (by decide) wraps_i64 8 (by decide) x h (by omega)

/-- An address as text. -/
def txt4 (a : Int) : List UInt8 := Lib.itoa (a / 16777216) ++ 46 :: (Lib.itoa (a / 65536 % 256) ++ 46 :: (Lib.itoa (a / 256 % 256) ++ 46 :: Lib.itoa (a % 256)))

theorem itoa_len (n : Int) (h0 : 0 ≤ n) (h1 : n ≤ 1000) : (Lib.itoa n).length ≤ 21 := Lib.itoa_length_le n (by omega) (by omega)

theorem itoa_at (x n : Int) (l : List UInt8) (et eb es : Addr) (m : Int) (w : World) (h : IpEnv w et eb es m) (hx : x = n) (hl : Hid (Lib.itoa n = l)) (h0 : 0 ≤ n) (h1 : n ≤ 1000) :
    Calls Tryz.prog 39 #[.int .i64 x] w fun e w' => e = .returned (.string ⟨l.toArray⟩) ∧ Below w.heap.size w w' := by
  subst hx
  rw [← hl.out]
  exact itoa_any x et eb es m w h h0 h1

/-- the four numbers of an address, as the program's bits come to them. -/
theorem part0 (a : Int) (h0 : 0 ≤ a) (h1 : a < 4294967296) : bits .and .i64 (a / 16777216) 255 = a / 16777216 := by rw [and255 _ (by omega) (by omega)]; omega
theorem part1 (a : Int) (h0 : 0 ≤ a) (h1 : a < 4294967296) : bits .and .i64 (a / 65536) 255 = a / 65536 % 256 := and255 _ (by omega) (by omega)
theorem part2 (a : Int) (h0 : 0 ≤ a) (h1 : a < 4294967296) : bits .and .i64 (a / 256) 255 = a / 256 % 256 := and255 _ (by omega) (by omega)
theorem part3 (a : Int) (h0 : 0 ≤ a) (h1 : a < 4294967296) : bits .and .i64 a 255 = a % 256 := and255 _ h0 h1

set_option maxHeartbeats 1000000 in
theorem addrText_any (a : Int) (et eb es : Addr) (m : Int) (w : World) (h : IpEnv w et eb es m) (hA : isA a = true) :
    Calls Tryz.prog 71 #[.int .i64 a] w fun e w' => e = .returned (.string ⟨(txt4 a).toArray⟩) ∧ Below w.heap.size w w' := by
  obtain ⟨a0, a1⟩ := (isA_iff a).1 hA
  obtain ⟨l1, e1⟩ : ∃ l, Hid (Lib.itoa (a / 16777216) = l) := ⟨_, rfl⟩
  obtain ⟨l2, e2⟩ : ∃ l, Hid (Lib.itoa (a / 65536 % 256) = l) := ⟨_, rfl⟩
  obtain ⟨l3, e3⟩ : ∃ l, Hid (Lib.itoa (a / 256 % 256) = l) := ⟨_, rfl⟩
  obtain ⟨l4, e4⟩ : ∃ l, Hid (Lib.itoa (a % 256) = l) := ⟨_, rfl⟩
  have k1 : l1.length ≤ 21 := by rw [← e1.out]; exact itoa_len _ (by omega) (by omega)
  have k2 : l2.length ≤ 21 := by rw [← e2.out]; exact itoa_len _ (by omega) (by omega)
  have k3 : l3.length ≤ 21 := by rw [← e3.out]; exact itoa_len _ (by omega) (by omega)
  have k4 : l4.length ≤ 21 := by rw [← e4.out]; exact itoa_len _ (by omega) (by omega)
  have ht : txt4 a = l1 ++ 46 :: (l2 ++ 46 :: (l3 ++ 46 :: l4)) := by unfold txt4; rw [e1.out, e2.out, e3.out, e4.out]
  rw [ht]; clear ht
  go_enter Tryz.func71, Tryz.ntmps71
  go_wp2_with (go_at_call 100; refine (isAddr_any _ _).mono ?_; rintro e w0 ⟨rfl, hw0⟩; subst hw0)
  refine wp_loop_rounds 4 ?_
  rw [rounds_succ]
  go_wp2_with fail
  refine (itoa_at _ _ l1 et eb es m _ h (part0 a a0 a1) e1 (by omega) (by omega)).mono ?_
  rintro e w1 ⟨rfl, hb1⟩
  go_wp2
  rw [rounds_succ]
  go_wp2_with fail
  refine (itoa_at _ _ l2 et eb es m _ (h.below hb1) (part1 a a0 a1) e2 (by omega) (by omega)).mono ?_
  rintro e w2 ⟨rfl, hb2⟩
  have hb2' := hb1.trans (hb2.mono hb1.size)
  go_wp2
  rw [rounds_succ]
  go_wp2_with fail
  refine (itoa_at _ _ l3 et eb es m _ (h.below hb2') (part2 a a0 a1) e3 (by omega) (by omega)).mono ?_
  rintro e w3 ⟨rfl, hb3⟩
  have hb3' := hb2'.trans (hb3.mono hb2'.size)
  go_wp2
  rw [rounds_succ]
  go_wp2_with fail
  refine (itoa_at _ _ l4 et eb es m _ (h.below hb3') (part3 a a0 a1) e4 (by omega) (by omega)).mono ?_
  rintro e w4 ⟨rfl, hb4⟩
  have hb4' := hb3'.trans (hb4.mono hb3'.size)
  go_wp2
  go_ret
  exact ⟨ret_str (by apply ByteArray.ext; simp [ByteArray.data_append]), hb4'⟩

theorem addrText_none (a : Int) (w : World) (hA : isA a = false) :
    Calls Tryz.prog 71 #[.int .i64 a] w fun e w' => e = .returned (.string ⟨#[]⟩) ∧ w' = w := by
  go_enter Tryz.func71, Tryz.ntmps71
  go_wp2_with (go_at_call 100; refine (isAddr_any _ _).mono ?_; rintro e w0 ⟨rfl, hw0⟩; subst hw0)
  go_ret
  exact ⟨rfl, rfl⟩

theorem addrText_at (a : Int) (l : List UInt8) (et eb es : Addr) (m : Int) (w : World) (h : IpEnv w et eb es m) (hA : isA a = true) (hl : Hid (txt4 a = l)) :
    Calls Tryz.prog 71 #[.int .i64 a] w fun e w' => e = .returned (.string ⟨l.toArray⟩) ∧ Below w.heap.size w w' := by
  rw [← hl.out]
  exact addrText_any a et eb es m w h hA

/-- A prefix as text. -/
def txtP (a n : Int) : List UInt8 := txt4 a ++ 47 :: Lib.itoa n

theorem held3 {A B C : Prop} (h : A ∧ B ∧ C) : C := h.2.2
theorem Calls.since {P : Program} {f : FuncId} {args : Array Value} {W w1 : World} {R : Ending} (hW : Below W.heap.size W w1) (h : Calls P f args w1 fun e w' => e = R ∧ Below w1.heap.size w1 w') :
    Calls P f args w1 fun e w' => e = R ∧ Below W.heap.size W w' := h.mono fun _ _ ⟨he, hb⟩ => ⟨he, hW.trans (hb.mono hW.size)⟩

set_option maxHeartbeats 2000000 in
theorem text_any (a n : Int) (et eb es : Addr) (m : Int) (w : World) (h : IpEnv w et eb es m) (hr : rt a n = true) :
    Calls Tryz.prog 33 #[.agg #[.int .i64 a, .int .i64 n]] w fun e w' => e = .returned (.string ⟨(txtP a n).toArray⟩) ∧ Below w.heap.size w w' := by
  have hA := rt_isA hr
  have hl := rt_len hr
  obtain ⟨l1, e1⟩ : ∃ l, Hid (txt4 a = l) := ⟨_, rfl⟩
  obtain ⟨l2, e2⟩ : ∃ l, Hid (Lib.itoa n = l) := ⟨_, rfl⟩
  have ht : txtP a n = l1 ++ 47 :: l2 := by unfold txtP; rw [e1.out, e2.out]
  have k2 : l2.length ≤ 21 := by rw [← e2.out]; exact itoa_len _ (by omega) (by omega)
  have k1 : l1.length ≤ 100 := by
    rw [← e1.out]
    obtain ⟨a0, a1⟩ := (isA_iff a).1 hA
    have g1 := itoa_len (a / 16777216) (by omega) (by omega)
    have g2 := itoa_len (a / 65536 % 256) (by omega) (by omega)
    have g3 := itoa_len (a / 256 % 256) (by omega) (by omega)
    have g4 := itoa_len (a % 256) (by omega) (by omega)
    unfold txt4
    simp only [List.length_append, List.length_cons]
    omega
  obtain ⟨l3, e3⟩ : ∃ l, Hid (l1 ++ [47] = l) := ⟨l1 ++ [47], show _ = _ from rfl⟩
  obtain ⟨l4, e4⟩ : ∃ l, Hid (l3 ++ l2 = l) := ⟨l3 ++ l2, show _ = _ from rfl⟩
  have q1 : ∀ w, (Op.stringOp .add ⟨l1.toArray⟩ ⟨#[47]⟩).run Tryz.prog w = .ok (.string ⟨l3.toArray⟩) w := fun w => by rw [← e3.out]; exact run_string_add_lists w l1 [47] (by omega) (by simp)
  have q2 : ∀ w, (Op.stringOp .add ⟨l3.toArray⟩ ⟨l2.toArray⟩).run Tryz.prog w = .ok (.string ⟨l4.toArray⟩) w := fun w => by rw [← e4.out]; exact run_string_add_lists w l3 l2 (by rw [← e3.out]; simp; omega) (by omega)
  have ht' : l1 ++ 47 :: l2 = l4 := by rw [← e4.out, ← e3.out]; simp
  rw [ht, ht']; clear ht ht' k1 k2
  go_enter Tryz.func33, Tryz.ntmps33
  go_wp2_with fail
  refine (right_any a n et eb es _ (h.alloc _).errs).mono ?_
  rintro e w1 ⟨rfl, hb1⟩
  have hE1 : IpEnv w1 et eb es m := (h.alloc _).below hb1
  have hbw : Below w.heap.size w w1 := (below_alloc w _).trans (hb1.mono (by simp))
  have c0 : w1.cell? ⟨w.heap.size, 0, none⟩ = some (.int .i64 a) := cell_kept hb1 (by rw [World.cell?_alloc_at _ _ _ _ rfl]; rfl)
  have c1 : w1.cell? ⟨w.heap.size, 1, none⟩ = some (.int .i64 n) := cell_kept hb1 (by rw [World.cell?_alloc_at _ _ _ _ rfl]; rfl)
  have HB : Hid (Below w.heap.size w w1) := hbw
  clear hb1 hbw h
  go_wp2
  go_region_held3 (fun w' => w'.cell? ⟨w.heap.size, 0, none⟩ = some (.int .i64 a) ∧ w'.cell? ⟨w.heap.size, 1, none⟩ = some (.int .i64 n) ∧ Below w1.heap.size w1 w') (first | exact ⟨cell_kept hbk c0, cell_kept hbk c1, hbk⟩ | exact ⟨c0, c1, (Below.refl _ _).drew⟩)
    (first | (go_at_call 71; refine (Calls.since (W := w1) ?_ (addrText_at a l1 et eb es m _ ?_ hA e1)).mono ?_; (apply held3; assumption); (apply hE1.below; apply held3; assumption); rintro e w2 ⟨rfl, hbk⟩) | (go_at_call 39; refine (Calls.since (W := w1) ?_ (itoa_at n n l2 et eb es m _ ?_ rfl e2 (by omega) (by omega))).mono ?_; (apply held3; assumption); (apply hE1.below; apply held3; assumption); rintro e w2 ⟨rfl, hbk⟩))
  go_wp2
  go_ret
  exact ⟨rfl, HB.out.trans (hbk.mono HB.out.size)⟩
end Go.Proofs.YtbfdgflbflajdaaGreatDoor

namespace Go.Proofs.YtbfdgflbflajdaaGreatDoor
open Go.RowKit

/-- The words of a text between dots, five at most: the fifth is the rest. -/
def words (s : ByteArray) : List ByteArray := Lib.splitB ⟨#[46]⟩ 0 (min 5 (s.size + 1) - 1) s
def rdFold : Int → List ByteArray → Option Int
  | a, [] => some a
  | a, x :: r => if okNum x.data.toList = true ∧ numOf x.data.toList ≤ 255 then rdFold (a * 256 + numOf x.data.toList) r else none
def rdAddr (s : ByteArray) : Option Int := if (words s).length = 4 then rdFold 0 (words s) else none

theorem hide' {p : Prop} (h : p) : Hid p := h
theorem pow256 (k : Nat) (a : Int) (h1 : a < 256 ^ k) (h2 : k < 4) : a ≤ 16777215 := by
  have : k = 0 ∨ k = 1 ∨ k = 2 ∨ k = 3 := by omega
  rcases this with rfl | rfl | rfl | rfl <;> simp at h1 <;> omega
theorem rdFold_snoc (a : Int) (l : List ByteArray) (x : ByteArray) : rdFold a (l ++ [x]) = (rdFold a l).bind fun b => if okNum x.data.toList = true ∧ numOf x.data.toList ≤ 255 then some (b * 256 + numOf x.data.toList) else none := by
  induction l generalizing a with
  | nil => simp [rdFold]
  | cons y r ih =>
    simp only [List.cons_append, rdFold]
    split
    · exact ih _
    · rfl
theorem rdFold_append (a : Int) (l r : List ByteArray) (h : rdFold a l = none) : rdFold a (l ++ r) = none := by
  induction l generalizing a with
  | nil => simp [rdFold] at h
  | cons y l ih =>
    simp only [List.cons_append, rdFold] at h ⊢
    split
    · rename_i hy; rw [if_pos hy] at h; exact ih _ h
    · rfl

theorem splitB_size (sep : ByteArray) (save : Nat) : ∀ (k : Nat) (s : ByteArray) (x : ByteArray), x ∈ Lib.splitB sep save k s → x.size ≤ s.size + save
  | 0, s, x, h => by simp [Lib.splitB] at h; subst h; omega
  | k + 1, s, x, h => by
    unfold Lib.splitB at h
    split at h
    · simp at h; subst h; omega
    · rcases List.mem_cons.1 h with rfl | h
      · simp; omega
      · have := splitB_size sep save k _ x h
        simp at this
        omega
theorem splitB_length (sep : ByteArray) (save : Nat) : ∀ (k : Nat) (s : ByteArray), 1 ≤ (Lib.splitB sep save k s).length ∧ (Lib.splitB sep save k s).length ≤ k + 1
  | 0, s => by simp [Lib.splitB]
  | k + 1, s => by
    unfold Lib.splitB
    split
    · simp
    · have := splitB_length sep save k (s.extract ((Lib.indexB s sep).toNat + sep.size) s.size)
      simp only [List.length_cons]
      omega
theorem words_size {s x : ByteArray} (h : x ∈ words s) : x.size ≤ s.size := splitB_size _ 0 _ s x h
theorem words_length (s : ByteArray) : 1 ≤ (words s).length ∧ (words s).length ≤ min 5 (s.size + 1) := by
  have := splitB_length ⟨#[46]⟩ 0 (min 5 (s.size + 1) - 1) s
  unfold words
  omega
theorem cellsOf_get {l : List ByteArray} {N k : Nat} (hk : k < l.length) : (Lib.cellsOf l N)[k]? = some (.string l[k]) := by
  unfold Lib.cellsOf
  rw [List.getElem?_toArray, List.getElem?_append_left (by simpa using hk)]
  simp [List.getElem?_map, List.getElem?_eq_getElem hk]

theorem readNumber_at (s : ByteArray) (v : Int) (b : Bool) (w : World) (hs : s.size ≤ maxLen) (hv : Hid (numOf s.data.toList = v)) (hb : Hid (okNum s.data.toList = b)) :
    Calls Tryz.prog 80 #[.string s] w fun e w' => e = .returned (.tuple #[.int .i64 v, .bool b]) ∧ w' = w := by
  rw [← hv.out, ← hb.out]
  exact number_any s w hs
theorem numOf_bounds (l : List UInt8) : 0 ≤ numOf l ∧ numOf l ≤ 999999999 := by
  unfold numOf
  split
  · rename_i h
    have h' := h
    unfold okNum at h'
    simp only [Bool.and_eq_true, decide_eq_true_eq] at h'
    exact valD_le l h'.1.1.2 h'.2
  · omega
theorem or256 (a n : Int) (ha : 0 ≤ a) (ha' : a ≤ 16777215) (hn : 0 ≤ n) (hn' : n ≤ 255) : bits .or .i64 (a * 256) n = a * 256 + n :=
  bits_join .i64 63 (by decide) wraps_i64 8 (a * 256) n (by omega) (by omega) (by omega) hn (by omega) (by omega)

set_option maxHeartbeats 2000000 in
theorem readAddr_any (s : ByteArray) (et eb es : Addr) (m : Int) (w : World) (h : IpEnv w et eb es m) (hs : s.size < 4294967281) :
    Calls Tryz.prog 168 #[.string s] w fun e w' => (e = match rdAddr s with | none => .returned (.tuple #[.int .i64 0, .iface 224 (.pointer (some et))]) | some a => .returned (.tuple #[.int .i64 a, .nilIface])) ∧ Below w.heap.size w w' := by
  have HS : Hid (Calls Tryz.prog 40 #[.string s, .string ⟨#[46]⟩, .int .i64 5] w fun e w' => e = .returned (.slice (some ⟨w.heap.size, 0, none⟩) (words s).length (min 5 (s.size + 1))) ∧ w' = w.alloc (.cells (Lib.cellsOf (words s) (min 5 (s.size + 1))) 9)) :=
    Tryz.strings_SplitN s ⟨#[46]⟩ 5 m w hs h.max (by decide) (by decide) (by decide)
  have hgt := h.txt
  have hglt : 2 < w.heap.size := cell_lt' hgt
  obtain ⟨ws, hws⟩ : ∃ ws, Hid (words s = ws) := ⟨words s, show _ = _ from rfl⟩
  have hsz : ∀ x ∈ ws, x.size < 4294967281 := fun x hx => by
    have := words_size (s := s) (x := x) (by rw [hws.out]; exact hx)
    omega
  have HZ : Hid (∀ x ∈ ws, x.size < 4294967281) := hsz
  have hwl := words_length s
  obtain ⟨N, hN⟩ : ∃ N, Hid (min 5 (s.size + 1) = N) := ⟨min 5 (s.size + 1), show _ = _ from rfl⟩
  rw [hws.out, hN.out] at HS
  rw [hws.out, hN.out] at hwl
  have hN5 : N ≤ 5 := by have := hN.out; omega
  obtain ⟨C, hC⟩ : ∃ C, Hid (Lib.cellsOf ws N = C) := ⟨Lib.cellsOf ws N, show _ = _ from rfl⟩
  rw [hC.out] at HS
  by_cases h4 : ws.length = 4
  · have hrd : rdAddr s = rdFold 0 ws := by unfold rdAddr; rw [hws.out, if_pos h4]
    rw [hrd]
    obtain ⟨R, hR⟩ : ∃ R, Hid ((match rdFold 0 ws with | none => Ending.returned (.tuple #[.int .i64 0, .iface 224 (.pointer (some et))]) | some a => Ending.returned (.tuple #[.int .i64 a, .nilIface])) = R) := ⟨_, show _ = _ from rfl⟩
    rw [hR.out]
    have HL : Hid (ws.length = 4) := h4
    rw [HL.out] at HS
    clear h4 hsz hrd
    go_enter Tryz.func168, Tryz.ntmps168
    go_wp2_with (go_at_call 40; refine HS.out.mono ?_; rintro e w1 ⟨rfl, rfl⟩)
    go_loop [5, 18] (fun a i => ∃ (k : Nat) (z : Int), k ≤ 4 ∧ i = .int .i64 k ∧ a = .int .i64 z ∧ 0 ≤ z ∧ z < 256 ^ k ∧ rdFold 0 (ws.take k) = some z) (fun _ i => 4 - (intOf i).toNat)
    case atStart => exact ⟨0, 0, by omega, rfl, rfl, by omega, by decide, rfl⟩
    case round =>
      obtain ⟨k, z, hk, rfl, rfl, z0, z1, hf⟩ := hrel
      have HF : Hid (rdFold 0 (ws.take k) = some z) := hf
      have HZ1 : Hid (z < 256 ^ k) := z1
      clear hf z1
      by_cases hlt : k < 4
      · have zb := pow256 k z HZ1.out hlt
        have hkl : k < ws.length := by rw [HL.out]; exact hlt
        obtain ⟨x, hx⟩ : ∃ x, Hid (ws[k] = x) := ⟨ws[k], show _ = _ from rfl⟩
        have hxm : x ∈ ws := by rw [← hx.out]; exact List.getElem_mem hkl
        have hxs : x.size ≤ maxLen := by have := HZ.out x hxm; unfold maxLen; omega
        have hCk : C[k]? = some (.string x) := by rw [← hC.out, cellsOf_get hkl, hx.out]
        obtain ⟨v, hv⟩ : ∃ v, Hid (numOf x.data.toList = v) := ⟨numOf x.data.toList, show _ = _ from rfl⟩
        have hvb : 0 ≤ v ∧ v ≤ 999999999 := by rw [← hv.out]; exact numOf_bounds _
        obtain ⟨v0, v1⟩ := hvb
        have HT : Hid (ws.take (k + 1) = ws.take k ++ [x]) := by rw [← hx.out]; exact List.take_succ_eq_append_getElem hkl
        clear hxm
        by_cases hgood : okNum x.data.toList = true ∧ v ≤ 255
        · obtain ⟨hok, hv255⟩ := hgood
          have HO : Hid (okNum x.data.toList = true) := hok
          clear hok
          go_wp2_with (go_at_call 80; refine (readNumber_at x v true _ hxs hv HO).mono ?_; rintro e w2 ⟨rfl, rfl⟩)
          go_round
          case rel => exact ⟨k + 1, z * 256 + v, by omega, by go_num, by rw [or256 z v z0 zb v0 hv255], by omega, by rw [Int.pow_succ]; have := HZ1.out; omega, by rw [HT.out, rdFold_snoc, HF.out, Option.bind_some, hv.out, if_pos ⟨HO.out, hv255⟩]⟩
          case measure => simp [intOf]; omega
        · have hbad : rdFold 0 ws = none := by
            rw [← List.take_append_drop (k + 1) ws]
            apply rdFold_append
            rw [HT.out, rdFold_snoc, HF.out, Option.bind_some, hv.out, if_neg hgood]
          have HR : Hid (R = Ending.returned (.tuple #[.int .i64 0, .iface 224 (.pointer (some et))])) := by rw [← hR.out, hbad]; rfl
          clear hbad
          cases hok : okNum x.data.toList with
          | false =>
            have HO : Hid (okNum x.data.toList = false) := hok
            clear hok hgood
            go_wp2_with (go_at_call 80; refine (readNumber_at x v false _ hxs hv HO).mono ?_; rintro e w2 ⟨rfl, rfl⟩)
            go_quiet (fail)
            go_wp2
            go_ret2
            exact ⟨HR.out.symm, below_drewN (below_alloc w _) _⟩
          | true =>
            have HO : Hid (okNum x.data.toList = true) := hok
            have hv255 : 255 < v := by
              rcases Int.lt_or_le 255 v with h | h
              · exact h
              · exact absurd ⟨hok, h⟩ hgood
            clear hok hgood
            go_wp2_with (go_at_call 80; refine (readNumber_at x v true _ hxs hv HO).mono ?_; rintro e w2 ⟨rfl, rfl⟩)
            go_quiet (fail)
            go_wp2
            go_ret2
            exact ⟨HR.out.symm, below_drewN (below_alloc w _) _⟩
      · have hkk : k = 4 := by omega
        have hfin : rdFold 0 ws = some z := by
          have := HF.out
          rwa [List.take_of_length_le (by rw [HL.out]; omega)] at this
        have HR : Hid (R = Ending.returned (.tuple #[.int .i64 z, .nilIface])) := by rw [← hR.out, hfin]; rfl
        clear hfin hkk
        go_wp2
        go_ret2
        exact ⟨HR.out.symm, below_alloc w _⟩
  · have hrd : rdAddr s = none := by unfold rdAddr; rw [hws.out, if_neg h4]
    rw [hrd]
    obtain ⟨L, hL⟩ : ∃ L, Hid (ws.length = L) := ⟨ws.length, show _ = _ from rfl⟩
    have hL4 : ((L : Int) != 4) = true := by rw [bne_iff_ne, ← hL.out]; omega
    rw [hL.out] at HS
    rw [hL.out] at hwl
    clear h4 hsz hrd
    go_enter Tryz.func168, Tryz.ntmps168
    go_wp2_with (go_at_call 40; refine HS.out.mono ?_; rintro e w1 ⟨rfl, rfl⟩)
    go_quiet (fail)
    go_wp2
    go_ret2
    exact ⟨rfl, below_drewN (below_alloc w _) _⟩
end Go.Proofs.YtbfdgflbflajdaaGreatDoor

namespace Go.Proofs.YtbfdgflbflajdaaGreatDoor
open Go.RowKit

/-- Check, as a number of an error. -/
def chkC (a n : Int) : Nat := if isA a = true ∧ isL n = true then (if a % pw n = 0 then 0 else 3) else 2
def errV (et eb es : Addr) : Nat → Value
  | 0 => .nilIface
  | 1 => .iface 224 (.pointer (some et))
  | 2 => .iface 224 (.pointer (some eb))
  | _ => .iface 224 (.pointer (some es))
theorem chk_errV (a n : Int) (et eb es : Addr) : chk a n eb es = errV et eb es (chkC a n) := by
  unfold chk chkC
  split
  · split <;> rfl
  · rfl
theorem chkC_rt (a n : Int) (h : rt a n = true) : chkC a n = 0 := by
  obtain ⟨h1, h2, h3⟩ := (rt_iff a n).1 h
  unfold chkC
  rw [if_pos ⟨(isA_iff a).2 h1, (isL_iff n).2 h2⟩, if_pos h3]
theorem rt_isL {a n : Int} (h : rt a n = true) : isL n = true := (isL_iff n).2 (rt_len h)
end Go.Proofs.YtbfdgflbflajdaaGreatDoor

namespace Go.Proofs.YtbfdgflbflajdaaGreatDoor
open Go.RowKit

/-- What Read comes to: the prefix's two numbers and an error's number. -/
def rdP (s : ByteArray) : Int × Int × Nat :=
  match rdAddr ⟨(Lib.cut s.data.toList [47]).1.toArray⟩ with
  | none => (0, 0, 1)
  | some a => if okNum (Lib.cut s.data.toList [47]).2.1 = true then (if chkC a (numOf (Lib.cut s.data.toList [47]).2.1) = 0 then (a, numOf (Lib.cut s.data.toList [47]).2.1, 0) else (0, 0, chkC a (numOf (Lib.cut s.data.toList [47]).2.1))) else (0, 0, 1)

theorem cut_sizes (l : List UInt8) : (Lib.cut l [47]).1.length ≤ l.length ∧ (Lib.cut l [47]).2.1.length ≤ l.length := by
  unfold Lib.cut
  split
  · simp only [List.length_take, List.length_drop]; omega
  · simp

set_option maxRecDepth 100000 in
set_option maxHeartbeats 4000000 in
theorem read_any (s : ByteArray) (et eb es : Addr) (m : Int) (w : World) (h : IpEnv w et eb es m) (hs : s.size < 4294967281) :
    Calls Tryz.prog 152 #[.string s] w fun e w' => e = .returned (.tuple #[.agg #[.int .i64 (rdP s).1, .int .i64 (rdP s).2.1], errV et eb es (rdP s).2.2]) ∧ Below w.heap.size w w' := by
  obtain ⟨x, hx⟩ : ∃ x, Hid ((Lib.cut s.data.toList [47]).1 = x) := ⟨_, show _ = _ from rfl⟩
  obtain ⟨y, hy⟩ : ∃ y, Hid ((Lib.cut s.data.toList [47]).2.1 = y) := ⟨_, show _ = _ from rfl⟩
  obtain ⟨f, hf⟩ : ∃ f, Hid ((Lib.cut s.data.toList [47]).2.2 = f) := ⟨_, show _ = _ from rfl⟩
  have hxs : (ByteArray.mk x.toArray).size < 4294967281 := by
    have h1 := (cut_sizes s.data.toList).1
    rw [hx.out, len_data] at h1
    show x.toArray.size < _
    simp; omega
  have hys : (ByteArray.mk y.toArray).size ≤ maxLen := by
    have h1 := (cut_sizes s.data.toList).2
    rw [hy.out, len_data] at h1
    show y.toArray.size ≤ _
    unfold maxLen
    simp; omega
  have HC : ∀ W : World, W.cell? ⟨10, 0, none⟩ = some (.int .i64 m) → Calls Tryz.prog 153 #[.string s, .string ⟨#[47]⟩] W fun e w' => e = .returned (.tuple #[.string ⟨x.toArray⟩, .string ⟨y.toArray⟩, .bool f]) ∧ ∃ n, w' = W.drewN n := fun W hW => by
    have := Tryz.strings_Cut s ⟨#[47]⟩ m W hs hW
    rw [show (ByteArray.mk #[47]).data.toList = [47] from rfl, hx.out, hy.out, hf.out] at this
    exact this
  have HCH := hide' HC
  clear HC
  obtain ⟨P0, hP0⟩ : ∃ z, Hid ((rdP s).1 = z) := ⟨_, show _ = _ from rfl⟩
  obtain ⟨P1, hP1⟩ : ∃ z, Hid ((rdP s).2.1 = z) := ⟨_, show _ = _ from rfl⟩
  obtain ⟨P2, hP2⟩ : ∃ z, Hid (errV et eb es (rdP s).2.2 = z) := ⟨_, show _ = _ from rfl⟩
  rw [hP0.out, hP1.out, hP2.out]
  have hbox := below_alloc w (.cells #[.int .i64 0, .int .i64 0] 65)
  have hEb := h.alloc (.cells #[.int .i64 0, .int .i64 0] 65)
  cases hra : rdAddr ⟨x.toArray⟩ with
  | none =>
    have HR : Hid (P0 = 0 ∧ P1 = 0 ∧ P2 = .iface 224 (.pointer (some et))) := by
      have : rdP s = (0, 0, 1) := by unfold rdP; rw [hx.out, hra]
      rw [← hP0.out, ← hP1.out, ← hP2.out, this]
      exact ⟨rfl, rfl, rfl⟩
    obtain ⟨rfl, rfl, rfl⟩ := HR.out
    have HRA : Hid (rdAddr ⟨x.toArray⟩ = none) := hra
    clear hra HR hP0 hP1 hP2
    go_enter Tryz.func152, Tryz.ntmps152
    go_wp2_with fail
    refine (HCH.out _ hEb.max).mono ?_
    rintro e w1 ⟨rfl, nq, rfl⟩
    go_wp2_with fail
    refine (readAddr_any ⟨x.toArray⟩ et eb es m _ (hEb.below (below_drewN (Below.refl _ _) nq)) hxs).mono ?_
    rw [HRA.out]
    rintro e w2 ⟨rfl, hb2⟩
    have hb2' : Below (w.alloc (.cells #[.int .i64 0, .int .i64 0] 65)).heap.size (w.alloc (.cells #[.int .i64 0, .int .i64 0] 65)) w2 := (below_drewN (Below.refl _ _) nq).trans hb2
    have c0 : w2.cell? ⟨w.heap.size, 0, none⟩ = some (.int .i64 0) := cell_kept hb2' (by rw [World.cell?_alloc_at _ _ _ _ rfl]; rfl)
    have c1 : w2.cell? ⟨w.heap.size, 1, none⟩ = some (.int .i64 0) := cell_kept hb2' (by rw [World.cell?_alloc_at _ _ _ _ rfl]; rfl)
    have f0 : w2.frozen? ⟨w.heap.size, 0, none⟩ = false := by rw [(bcell hb2').2 _ _ (by simp)]; simp
    have f1 : w2.frozen? ⟨w.heap.size, 1, none⟩ = false := by rw [(bcell hb2').2 _ _ (by simp)]; simp
    have HB2 : Hid (Below w.heap.size w w2) := hbox.trans (hb2'.mono hbox.size)
    clear hb2 hb2'
    go_wp2
    exact bodyPost_ret (v := .tuple #[.agg #[.int .i64 0, .int .i64 0], .iface 224 (.pointer (some et))]) (by simp [results, Tryz.results152, go_sem, c0, c1]) rfl ⟨rfl, (HB2.out.setCell (Nat.le_refl _) _).setCell (Nat.le_refl _) _⟩
  | some a =>
    have HRA : Hid (rdAddr ⟨x.toArray⟩ = some a) := hra
    cases hok : okNum y with
    | false =>
      have HR : Hid (P0 = 0 ∧ P1 = 0 ∧ P2 = .iface 224 (.pointer (some et))) := by
        have : rdP s = (0, 0, 1) := by unfold rdP; rw [hx.out, hra]; simp [hy.out, hok]
        rw [← hP0.out, ← hP1.out, ← hP2.out, this]
        exact ⟨rfl, rfl, rfl⟩
      obtain ⟨rfl, rfl, rfl⟩ := HR.out
      have HO : Hid (okNum y = false) := hok
      clear hra hok HR hP0 hP1 hP2
      go_enter Tryz.func152, Tryz.ntmps152
      go_wp2_with fail
      refine (HCH.out _ hEb.max).mono ?_
      rintro e w1 ⟨rfl, nq, rfl⟩
      go_wp2_with fail
      refine (readAddr_any ⟨x.toArray⟩ et eb es m _ (hEb.below (below_drewN (Below.refl _ _) nq)) hxs).mono ?_
      rw [HRA.out]
      rintro e w2 ⟨rfl, hb2⟩
      have hb2' : Below (w.alloc (.cells #[.int .i64 0, .int .i64 0] 65)).heap.size (w.alloc (.cells #[.int .i64 0, .int .i64 0] 65)) w2 := (below_drewN (Below.refl _ _) nq).trans hb2
      have c0 : w2.cell? ⟨w.heap.size, 0, none⟩ = some (.int .i64 0) := cell_kept hb2' (by rw [World.cell?_alloc_at _ _ _ _ rfl]; rfl)
      have c1 : w2.cell? ⟨w.heap.size, 1, none⟩ = some (.int .i64 0) := cell_kept hb2' (by rw [World.cell?_alloc_at _ _ _ _ rfl]; rfl)
      have f0 : w2.frozen? ⟨w.heap.size, 0, none⟩ = false := by rw [(bcell hb2').2 _ _ (by simp)]; simp
      have f1 : w2.frozen? ⟨w.heap.size, 1, none⟩ = false := by rw [(bcell hb2').2 _ _ (by simp)]; simp
      have HB2 : Hid (Below w.heap.size w w2) := hbox.trans (hb2'.mono hbox.size)
      have hz2 : w.heap.size < w2.heap.size := by have := hb2'.size; simp at this; omega
      have hE2 : IpEnv w2 et eb es m := hEb.below hb2'
      clear hb2 hb2'
      have gt := hE2.txt
      have gne : (2 : Nat) ≠ w.heap.size := Nat.ne_of_lt (cell_lt' h.txt)
      have gt' : ∀ u v, ((w2.setCell ⟨w.heap.size, 0, none⟩ u).setCell ⟨w.heap.size, 1, none⟩ v).cell? ⟨2, 0, none⟩ = some (.iface 224 (.pointer (some et))) := fun u v => by
        rw [World.cell?_setCell_far _ _ _ _ (Ne.symm gne), World.cell?_setCell_far _ _ _ _ (Ne.symm gne)]; exact gt
      go_wp2_with fail
      refine (readNumber_at ⟨y.toArray⟩ (numOf y) false _ hys rfl HO).mono ?_
      rintro e w3 ⟨rfl, hw3⟩
      subst hw3
      go_wp2
      go_region
      go_wp2
      exact bodyPost_ret (v := .tuple #[.agg #[.int .i64 0, .int .i64 0], .iface 224 (.pointer (some et))]) (by simp [results, Tryz.results152, go_sem, c0, c1]) rfl ⟨rfl, ((HB2.out.setCell (Nat.le_refl _) _).setCell (Nat.le_refl _) _).drew⟩
    | true =>
      have HO : Hid (okNum y = true) := hok
      obtain ⟨n, hn⟩ : ∃ n, Hid (numOf y = n) := ⟨_, show _ = _ from rfl⟩
      have hchk := chk_errV a n et eb es
      by_cases hk : chkC a n = 0
      · have HR : Hid (P0 = a ∧ P1 = n ∧ P2 = .nilIface) := by
          have : rdP s = (a, n, 0) := by unfold rdP; rw [hx.out, hra]; simp [hy.out, hok, hn.out, hk]
          rw [← hP0.out, ← hP1.out, ← hP2.out, this]
          exact ⟨rfl, rfl, rfl⟩
        obtain ⟨r0, r1, r2⟩ := HR.out
        rw [r0, r1, r2]
        clear r0 r1 r2
        have HK : Hid (chk a n eb es = .nilIface) := by rw [hchk, hk]; rfl
        clear hra hok HR hP0 hP1 hP2 hchk hk
        go_enter Tryz.func152, Tryz.ntmps152
        go_wp2_with fail
        refine (HCH.out _ hEb.max).mono ?_
        rintro e w1 ⟨rfl, nq, rfl⟩
        go_wp2_with fail
        refine (readAddr_any ⟨x.toArray⟩ et eb es m _ (hEb.below (below_drewN (Below.refl _ _) nq)) hxs).mono ?_
        rw [HRA.out]
        rintro e w2 ⟨rfl, hb2⟩
        have hb2' : Below (w.alloc (.cells #[.int .i64 0, .int .i64 0] 65)).heap.size (w.alloc (.cells #[.int .i64 0, .int .i64 0] 65)) w2 := (below_drewN (Below.refl _ _) nq).trans hb2
        have c0 : w2.cell? ⟨w.heap.size, 0, none⟩ = some (.int .i64 0) := cell_kept hb2' (by rw [World.cell?_alloc_at _ _ _ _ rfl]; rfl)
        have c1 : w2.cell? ⟨w.heap.size, 1, none⟩ = some (.int .i64 0) := cell_kept hb2' (by rw [World.cell?_alloc_at _ _ _ _ rfl]; rfl)
        have f0 : w2.frozen? ⟨w.heap.size, 0, none⟩ = false := by rw [(bcell hb2').2 _ _ (by simp)]; simp
        have f1 : w2.frozen? ⟨w.heap.size, 1, none⟩ = false := by rw [(bcell hb2').2 _ _ (by simp)]; simp
        have HB2 : Hid (Below w.heap.size w w2) := hbox.trans (hb2'.mono hbox.size)
        have hz2 : w.heap.size < w2.heap.size := by have := hb2'.size; simp at this; omega
        have hE2 : IpEnv w2 et eb es m := hEb.below hb2'
        clear hb2 hb2'
        go_wp2_with fail
        refine (readNumber_at ⟨y.toArray⟩ n true _ hys hn HO).mono ?_
        rintro e w3 ⟨rfl, hw3⟩
        subst hw3
        go_wp2_with fail
        refine (check_any a n et eb es _ (hE2.alloc _).errs).mono ?_
        rw [HK.out]
        rintro e w4 ⟨rfl, hb4⟩
        have hb4' : Below w3.heap.size w3 w4 := (below_alloc w3 _).trans (hb4.mono (by simp))
        have d0 : w4.cell? ⟨w3.heap.size, 0, none⟩ = some (.int .i64 a) := cell_kept hb4 (by rw [World.cell?_alloc_at _ _ _ _ rfl]; rfl)
        have d1 : w4.cell? ⟨w3.heap.size, 1, none⟩ = some (.int .i64 n) := cell_kept hb4 (by rw [World.cell?_alloc_at _ _ _ _ rfl]; rfl)
        have c0' := cell_kept hb4' c0
        have c1' := cell_kept hb4' c1
        have f0' : w4.frozen? ⟨w.heap.size, 0, none⟩ = false := by rw [(bcell hb4').2 _ _ hz2]; exact f0
        have f1' : w4.frozen? ⟨w.heap.size, 1, none⟩ = false := by rw [(bcell hb4').2 _ _ hz2]; exact f1
        have HB4 : Hid (Below w.heap.size w w4) := HB2.out.trans (hb4'.mono HB2.out.size)
        clear hb4 hb4' c0 c1 f0 f1
        go_wp2
        exact bodyPost_ret (v := .tuple #[.agg #[.int .i64 a, .int .i64 n], .nilIface]) (by simp [results, Tryz.results152, go_sem, c0', c1']) rfl ⟨rfl, (HB4.out.setCell (Nat.le_refl _) _).setCell (Nat.le_refl _) _⟩
      · obtain ⟨xe, hxe⟩ : ∃ xe, errV et eb es (chkC a n) = .iface 224 (.pointer (some xe)) := by
          generalize chkC a n = c at hk
          match c, hk with
          | 1, _ => exact ⟨et, rfl⟩
          | 2, _ => exact ⟨eb, rfl⟩
          | c + 3, _ => exact ⟨es, rfl⟩
        have HR : Hid (P0 = 0 ∧ P1 = 0 ∧ P2 = .iface 224 (.pointer (some xe))) := by
          have : rdP s = (0, 0, chkC a n) := by unfold rdP; rw [hx.out, hra]; simp [hy.out, hok, hn.out, hk]
          rw [← hP0.out, ← hP1.out, ← hP2.out, this]
          exact ⟨rfl, rfl, hxe⟩
        obtain ⟨r0, r1, r2⟩ := HR.out
        rw [r0, r1, r2]
        clear r0 r1 r2
        have HK : Hid (chk a n eb es = .iface 224 (.pointer (some xe))) := by rw [hchk, hxe]; rfl
        clear hra hok HR hP0 hP1 hP2 hchk hk hxe
        go_enter Tryz.func152, Tryz.ntmps152
        go_wp2_with fail
        refine (HCH.out _ hEb.max).mono ?_
        rintro e w1 ⟨rfl, nq, rfl⟩
        go_wp2_with fail
        refine (readAddr_any ⟨x.toArray⟩ et eb es m _ (hEb.below (below_drewN (Below.refl _ _) nq)) hxs).mono ?_
        rw [HRA.out]
        rintro e w2 ⟨rfl, hb2⟩
        have hb2' : Below (w.alloc (.cells #[.int .i64 0, .int .i64 0] 65)).heap.size (w.alloc (.cells #[.int .i64 0, .int .i64 0] 65)) w2 := (below_drewN (Below.refl _ _) nq).trans hb2
        have c0 : w2.cell? ⟨w.heap.size, 0, none⟩ = some (.int .i64 0) := cell_kept hb2' (by rw [World.cell?_alloc_at _ _ _ _ rfl]; rfl)
        have c1 : w2.cell? ⟨w.heap.size, 1, none⟩ = some (.int .i64 0) := cell_kept hb2' (by rw [World.cell?_alloc_at _ _ _ _ rfl]; rfl)
        have f0 : w2.frozen? ⟨w.heap.size, 0, none⟩ = false := by rw [(bcell hb2').2 _ _ (by simp)]; simp
        have f1 : w2.frozen? ⟨w.heap.size, 1, none⟩ = false := by rw [(bcell hb2').2 _ _ (by simp)]; simp
        have HB2 : Hid (Below w.heap.size w w2) := hbox.trans (hb2'.mono hbox.size)
        have hz2 : w.heap.size < w2.heap.size := by have := hb2'.size; simp at this; omega
        have hE2 : IpEnv w2 et eb es m := hEb.below hb2'
        clear hb2 hb2'
        go_wp2_with fail
        refine (readNumber_at ⟨y.toArray⟩ n true _ hys hn HO).mono ?_
        rintro e w3 ⟨rfl, hw3⟩
        subst hw3
        go_wp2_with fail
        refine (check_any a n et eb es _ (hE2.alloc _).errs).mono ?_
        rw [HK.out]
        rintro e w4 ⟨rfl, hb4⟩
        have hb4' : Below w3.heap.size w3 w4 := (below_alloc w3 _).trans (hb4.mono (by simp))
        have c0' := cell_kept hb4' c0
        have c1' := cell_kept hb4' c1
        have f0' : w4.frozen? ⟨w.heap.size, 0, none⟩ = false := by rw [(bcell hb4').2 _ _ hz2]; exact f0
        have f1' : w4.frozen? ⟨w.heap.size, 1, none⟩ = false := by rw [(bcell hb4').2 _ _ hz2]; exact f1
        have HB4 : Hid (Below w.heap.size w w4) := HB2.out.trans (hb4'.mono HB2.out.size)
        clear hb4 hb4' c0 c1 f0 f1
        go_wp2
        exact bodyPost_ret (v := .tuple #[.agg #[.int .i64 0, .int .i64 0], .iface 224 (.pointer (some xe))]) (by simp [results, Tryz.results152, go_sem, c0', c1']) rfl ⟨rfl, (HB4.out.setCell (Nat.le_refl _) _).setCell (Nat.le_refl _) _⟩
end Go.Proofs.YtbfdgflbflajdaaGreatDoor
