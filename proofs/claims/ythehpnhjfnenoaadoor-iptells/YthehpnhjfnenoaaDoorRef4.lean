/-
  The document's answer, chapter 1 (herepathref1): Byte, below, Decimal, AddrText, PrefixText: what each returns.
-/
import Derived.Test.YthehpnhjfnenoaaDoorNumMath
import Derived.Lib.SlBytesRow
namespace Go.Proofs.YthehpnhjfnenoaaDoor
open Go.RowKit

theorem byte_row (w : World) (n : Int) (h0 : 0 ≤ n) (h1 : n ≤ 255) :
    (convert 144 9 (.slice (some ⟨w.heap.size, 0, none⟩) 1 1)).run Tryd.prog (w.alloc (.cells #[.int .u8 n] 5)) = .ok (.string ⟨#[UInt8.ofNat n.toNat]⟩) (w.alloc (.cells #[.int .u8 n] 5)) := by
  have hn : (UInt8.ofNat n.toNat).toNat = n.toNat := by
    rw [UInt8.toNat_ofNat']
    omega
  have h := Lib.run_convert_whole (P := Tryd.prog) (w.alloc (.cells #[.int .u8 n] 5)) 144 5 9 Tryd.underlying144 Tryd.underlying5 Tryd.underlying9 w.heap.size 0 ⟨#[UInt8.ofNat n.toNat]⟩ (fun i hi => by
    have hi0 : i = 0 := by
      have : i < 1 := hi
      omega
    subst hi0
    rw [World.cell?_alloc_at _ _ _ _ rfl]
    show some (Value.int .u8 n) = some (.int .u8 ((UInt8.ofNat n.toNat).toNat : Int))
    rw [hn]
    congr 2
    omega) 1
  exact h
set_option maxRecDepth 100000 in
set_option maxHeartbeats 1000000 in
theorem rByte_any (n : Int) (h0 : 0 ≤ n) (h1 : n ≤ 255) (w : World) :
    Calls Tryd.prog 92 #[.int .i64 n] w fun e w' => e = .returned (.string ⟨#[UInt8.ofNat n.toNat]⟩) ∧ Below w.heap.size w w' := by
  have hw : IntKind.u8.wrap n = n := by rw [IntKind.wrap_u8]; omega
  have hq := byte_row w n h0 h1
  go_enter Tryd.func92, Tryd.ntmps92
  go_wp2
  go_ret
  exact ⟨rfl, below_alloc _ _⟩

theorem decDigits_len (u : Nat) (h : u < 18446744073709551616) : (Lib.decDigits u).length ≤ 20 := by rw [Lib.decDigits_length]; exact Lib.nDigits_le20 u h
theorem decDigits_more (u : Nat) (h : ¬ u < 10) : Lib.decDigits u = Lib.decDigits (u / 10) ++ [UInt8.ofNat (48 + u % 10)] := by rw [Lib.decDigits, dif_neg h]

theorem rByte_at (n : Int) (d : Nat) (c : UInt8) (hc : Hid (UInt8.ofNat (48 + d) = c)) (hn : n = 48 + (d : Int)) (hd : d < 10) (w : World) :
    Calls Tryd.prog 92 #[.int .i64 n] w fun e w' => e = .returned (.string ⟨#[c]⟩) ∧ Below w.heap.size w w' := by
  rw [← hc.out]
  have h := rByte_any n (by omega) (by omega) w
  rw [show n.toNat = 48 + d by omega] at h
  exact h

set_option maxRecDepth 100000 in
set_option maxHeartbeats 1000000 in
theorem rBelow_any : ∀ (u : Nat) (_ : (u : Int) ≤ 9223372036854775807) (n : Int) (_ : n = -(u : Int)) (w : World),
    Calls Tryd.prog 77 #[.int .i64 n] w fun e w' => e = .returned (.string ⟨(Lib.decDigits u).toArray⟩) ∧ Below w.heap.size w w' := by
  intro u
  induction u using Nat.strongRecOn with
  | _ u ih =>
    intro hu n hn w
    by_cases h : u < 10
    · obtain ⟨c, hc⟩ : ∃ c, Hid (UInt8.ofNat (48 + u) = c) := ⟨_, show _ = _ from rfl⟩
      rw [Lib.decDigits_one h, show UInt8.ofNat (48 + u) = c from hc.out]
      have hd : decide (-10 < n) = true := decide_eq_true (by omega)
      have hw : IntKind.i64.wrap (48 - n) = 48 - n := wrapi _ (by omega)
      have HN : Hid (48 - n = 48 + (u : Int)) := by show 48 - n = 48 + (u : Int); omega
      clear hn ih hu
      go_enter Tryd.func77, Tryd.ntmps77
      go_wp2_with fail
      refine (rByte_at _ u c hc HN.out h _).mono ?_
      rintro e w1 ⟨rfl, hb1⟩
      go_wp2_with fail
      go_ret
      exact ⟨rfl, hb1⟩
    · have hd : decide (-10 < n) = false := decide_eq_false (by omega)
      have h10 : ¬ -10 < n := by omega
      obtain ⟨q, hq⟩ : ∃ q, Hid (n.tdiv 10 = q) := ⟨_, show _ = _ from rfl⟩
      obtain ⟨r, hr⟩ : ∃ r, Hid (n.tmod 10 = r) := ⟨_, show _ = _ from rfl⟩
      have eq : q = -((u / 10 : Nat) : Int) := by
        rw [← hq.out, hn, Int.neg_tdiv, Int.tdiv_eq_ediv_of_nonneg (by omega)]; omega
      have er : r = -((u % 10 : Nat) : Int) := by
        rw [← hr.out, hn, Int.neg_tmod, Int.tmod_eq_emod_of_nonneg (by omega)]; omega
      have hw : IntKind.i64.wrap (48 - r) = 48 - r := wrapi _ (by omega)
      have hwq : IntKind.i64.wrap q = q := wrapi _ (by omega)
      have HR : Hid (48 - r = 48 + ((u % 10 : Nat) : Int)) := by show 48 - r = 48 + ((u % 10 : Nat) : Int); omega
      have EQ : Hid (q = -((u / 10 : Nat) : Int)) := eq
      have IH : Hid (∀ w, Calls Tryd.prog 77 #[.int .i64 q] w fun e w' => e = .returned (.string ⟨(Lib.decDigits (u / 10)).toArray⟩) ∧ Below w.heap.size w w') := fun w => ih (u / 10) (by omega) (by omega) q EQ.out w
      have q1 : n.tdiv 10 = q := hq.out
      have q2 : n.tmod 10 = r := hr.out
      have hlen := decDigits_len (u / 10) (by omega)
      obtain ⟨c, hc⟩ : ∃ c, Hid (UInt8.ofNat (48 + u % 10) = c) := ⟨_, show _ = _ from rfl⟩
      rw [decDigits_more u h, show UInt8.ofNat (48 + u % 10) = c from hc.out]
      obtain ⟨l1, e1⟩ : ∃ l, Hid (Lib.decDigits (u / 10) = l) := ⟨_, show _ = _ from rfl⟩
      obtain ⟨l2, e2⟩ : ∃ l, Hid (l1 ++ [c] = l) := ⟨_, show _ = _ from rfl⟩
      rw [show Lib.decDigits (u / 10) = l1 from e1.out] at hlen IH ⊢
      rw [show l1 ++ [c] = l2 from e2.out]
      have qa : ∀ w, (Op.stringOp .add ⟨l1.toArray⟩ ⟨#[c]⟩).run Tryd.prog w = .ok (.string ⟨l2.toArray⟩) w := fun w => by rw [← e2.out]; exact run_string_add_lists w l1 [c] (by omega) (by simp)
      clear hn ih hu eq er hlen
      go_enter Tryd.func77, Tryd.ntmps77
      go_wp2_with fail
      refine (IH.out _).mono ?_
      rintro e w1 ⟨rfl, hb1⟩
      go_wp2_with fail
      refine (rByte_at _ (u % 10) c hc HR.out (by omega) _).mono ?_
      rintro e w2 ⟨rfl, hb2⟩
      go_wp2_with fail
      go_ret
      exact ⟨rfl, hb1.trans (hb2.mono hb1.size)⟩
theorem rBelow_at (u : Nat) (n : Int) (l : List UInt8) (hl : Hid (Lib.decDigits u = l)) (hu : (u : Int) ≤ 9223372036854775807) (hn : n = -(u : Int)) (w : World) :
    Calls Tryd.prog 77 #[.int .i64 n] w fun e w' => e = .returned (.string ⟨l.toArray⟩) ∧ Below w.heap.size w w' := by
  rw [← hl.out]
  exact rBelow_any u hu n hn w
set_option maxRecDepth 100000 in
set_option maxHeartbeats 1000000 in
theorem rDecimal_any (n : Int) (h0 : -9223372036854775807 ≤ n) (h1 : n ≤ 9223372036854775807) (w : World) :
    Calls Tryd.prog 58 #[.int .i64 n] w fun e w' => e = .returned (.string ⟨(Lib.itoa n).toArray⟩) ∧ Below w.heap.size w w' := by
  by_cases h : n < 0
  · have hi : Lib.itoa n = 45 :: Lib.decDigits n.natAbs := by unfold Lib.itoa; rw [if_pos h]
    have hlen := decDigits_len n.natAbs (by omega)
    obtain ⟨l1, e1⟩ : ∃ l, Hid (Lib.decDigits n.natAbs = l) := ⟨_, show _ = _ from rfl⟩
    rw [hi, show Lib.decDigits n.natAbs = l1 from e1.out]
    rw [show Lib.decDigits n.natAbs = l1 from e1.out] at hlen
    obtain ⟨l2, e2⟩ : ∃ l, Hid (45 :: l1 = l) := ⟨_, show _ = _ from rfl⟩
    rw [show 45 :: l1 = l2 from e2.out]
    have qa : ∀ w, (Op.stringOp .add ⟨#[45]⟩ ⟨l1.toArray⟩).run Tryd.prog w = .ok (.string ⟨l2.toArray⟩) w := fun w => by rw [← e2.out]; exact run_string_add_lists w [45] l1 (by simp) (by omega)
    have HN : Hid (n = -(n.natAbs : Int)) := by show n = -(n.natAbs : Int); omega
    have HU : Hid ((n.natAbs : Int) ≤ 9223372036854775807) := by show (n.natAbs : Int) ≤ 9223372036854775807; omega
    clear hi hlen
    go_enter Tryd.func58, Tryd.ntmps58
    go_wp2_with fail
    refine (rBelow_at _ n l1 e1 HU.out HN.out _).mono ?_
    rintro e w1 ⟨rfl, hb1⟩
    go_wp2_with fail
    go_ret
    exact ⟨rfl, hb1⟩
  · have hi : Lib.itoa n = Lib.decDigits n.toNat := by unfold Lib.itoa; rw [if_neg h]
    obtain ⟨l1, e1⟩ : ∃ l, Hid (Lib.decDigits n.toNat = l) := ⟨_, show _ = _ from rfl⟩
    rw [hi, show Lib.decDigits n.toNat = l1 from e1.out]
    have hw : IntKind.i64.wrap (-n) = -n := wrapi _ (by omega)
    have HN : Hid (-n = -(n.toNat : Int)) := by show -n = -(n.toNat : Int); omega
    have HU : Hid ((n.toNat : Int) ≤ 9223372036854775807) := by show (n.toNat : Int) ≤ 9223372036854775807; omega
    clear hi
    go_enter Tryd.func58, Tryd.ntmps58
    go_wp2_with fail
    refine (rBelow_at _ (-n) l1 e1 HU.out HN.out _).mono ?_
    rintro e w1 ⟨rfl, hb1⟩
    go_wp2_with fail
    go_ret
    exact ⟨rfl, hb1⟩
theorem rDecimal_at (x n : Int) (l : List UInt8) (hx : Hid (x = n)) (hl : Hid (Lib.itoa n = l)) (h0 : 0 ≤ n) (h1 : n ≤ 1000) (w : World) :
    Calls Tryd.prog 58 #[.int .i64 x] w fun e w' => e = .returned (.string ⟨l.toArray⟩) ∧ Below w.heap.size w w' := by
  have := hx.out; subst this
  rw [← hl.out]
  exact rDecimal_any x (by omega) (by omega) w
end Go.Proofs.YthehpnhjfnenoaaDoor
