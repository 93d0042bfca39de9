/-
  Package set's widest: the widest prefix that a span begins with.
-/
import Derived.Test.YthehpnhjfnenoaaDoorTz
import Derived.Test.YthehpnhjfnenoaaDoorShelf
import Derived.Lib.ItoaNum
import Derived.BigQuiet
import Derived.Deep.QuietTactic
namespace Go.Proofs.YthehpnhjfnenoaaDoor
open Go.RowKit

theorem bitLen_bounds (d : Nat) (h0 : 0 < d) (h1 : d < 18446744073709551616) : 1 ≤ Lib.bitLen d ∧ 2 ^ (Lib.bitLen d - 1) ≤ d ∧ d < 2 ^ Lib.bitLen d :=
  Lib.bitLenAux_bounds 64 d (by omega) (by omega)
theorem pw_of (m : Nat) (h : m ≤ 32) : pw (32 - (m : Int)) = ((2 ^ m : Nat) : Int) := by
  rw [pw_nat, show (32 - (32 - (m : Int))).toNat = m by omega]
/-- the program's number of free bits is the widest one. -/
theorem wid_of (f e : Int) (t m : Nat) (h0 : 0 ≤ f) (h1 : f < e) (h2 : e ≤ 4294967296) (ht : (f = 0 ∧ t = 64) ∨ ∃ j : Nat, f = ((2 ^ t * (2 * j + 1) : Nat) : Int)) (hm : m = min t (Lib.bitLen (e - f).toNat - 1)) : Wid f e (32 - (m : Int)) ∧ m ≤ 32 := by
  obtain ⟨d, hd⟩ : ∃ d : Nat, e - f = d := ⟨(e - f).toNat, by omega⟩
  have hdn : (e - f).toNat = d := by omega
  rw [hdn] at hm
  obtain ⟨b1, b2, b3⟩ := bitLen_bounds d (by omega) (by omega)
  generalize Lib.bitLen d = L at *
  have hL : L ≤ 33 := by
    rcases Nat.lt_or_ge 33 L with h | h
    · have : 2 ^ 33 ≤ 2 ^ (L - 1) := Nat.pow_le_pow_right (by decide) (by omega)
      omega
    · exact h
  have hm32 : m ≤ 32 := by omega
  refine ⟨⟨by omega, ?_, ?_, ?_⟩, hm32⟩
  · rw [pw_of m hm32]
    rcases ht with ⟨rfl, -⟩ | ⟨j, rfl⟩
    · simp
    · have : 2 ^ t * (2 * j + 1) = 2 ^ m * (2 ^ (t - m) * (2 * j + 1)) := by
        rw [← Nat.mul_assoc, ← Nat.pow_add]; congr 2; omega
      rw [this, ← Int.natCast_emod, Nat.mul_mod_right]; rfl
  · rw [pw_of m hm32]
    have : 2 ^ m ≤ 2 ^ (L - 1) := Nat.pow_le_pow_right (by decide) (by omega)
    omega
  · by_cases hm' : m = 32
    · left; omega
    · right
      rintro ⟨c1, c2⟩
      rw [show (32 : Int) - (m : Int) - 1 = 32 - ((m + 1 : Nat) : Int) by omega, pw_of (m + 1) (by omega)] at c1 c2
      by_cases hlt : L - 1 < t
      · have hmL : m + 1 = L := by omega
        rw [hmL] at c2
        omega
      · have hmt : m = t := by omega
        subst hmt
        rcases ht with ⟨-, h64⟩ | ⟨j, rfl⟩
        · omega
        · rw [← Int.natCast_emod] at c1
          have c1' : 2 ^ m * (2 * j + 1) % 2 ^ (m + 1) = 0 := by omega
          rw [Nat.pow_succ, Nat.mul_mod_mul_left] at c1'
          have := Nat.two_pow_pos m
          have : (2 * j + 1) % 2 = 1 := by omega
          rw [this] at c1'
          omega
theorem tz_call (f : Int) (h0 : 0 ≤ f) (h1 : f < 4294967296) :
    ∃ t : Nat, t ≤ 64 ∧ ((f = 0 ∧ t = 64) ∨ ∃ j : Nat, f = ((2 ^ t * (2 * j + 1) : Nat) : Int)) ∧ ∀ w', Lib.TabIs Tryd.prog w' "math/bits.deBruijn64tab" .u8 dbTab → Calls Tryd.prog 96 #[.int .u64 f] w' fun e w'' => e = .returned (.int .i64 t) ∧ w'' = w' := by
  by_cases hz : f = 0
  · subst hz
    exact ⟨64, Nat.le_refl _, .inl ⟨rfl, rfl⟩, fun w' _ => tz_zero w'⟩
  · obtain ⟨x, hx⟩ : ∃ x : Nat, f = x := ⟨f.toNat, by omega⟩
    obtain ⟨k, j, hk⟩ := odd_part x (by omega)
    have hkl := pow_lt_of k j x 32 hk (by omega)
    refine ⟨k, by omega, .inr ⟨j, by rw [hx, hk]⟩, fun w' hT' => ?_⟩
    rw [hx]
    exact tz_any k j x w' hk (by omega) hT'
theorem tab_below {w w' : World} (h : Lib.TabIs Tryd.prog w "math/bits.deBruijn64tab" .u8 dbTab) (hb : Below w.heap.size w w') : Lib.TabIs Tryd.prog w' "math/bits.deBruijn64tab" .u8 dbTab :=
  Joins.tab_stays dbNamed h hb (Nat.le_refl _)

set_option linter.unusedVariables false in
set_option maxRecDepth 100000 in
set_option maxHeartbeats 2000000 in
theorem widest_any (f e : Int) (w : World) (h0 : 0 ≤ f) (h1 : f < e) (h2 : e ≤ 4294967296) (hT : Lib.TabIs Tryd.prog w "math/bits.deBruijn64tab" .u8 dbTab) :
    Calls Tryd.prog 82 #[.agg #[.int .i64 f, .int .i64 e]] w fun r w' => (∃ n : Int, r = .returned (.agg #[.int .i64 f, .int .i64 n]) ∧ Wid f e n) ∧ Below w.heap.size w w' := by
  obtain ⟨t, ht64, ht, HTZ⟩ := tz_call f h0 (by omega)
  have hbe : Below w.heap.size w ((w.alloc (.cells #[.int .i64 f, .int .i64 e] 93)).alloc (.cells #[.int .i64 0, .int .i64 0] 36)) := (below_alloc w _).alloc (by simp) _
  have HTZ2 : Hid (∀ n, Calls Tryd.prog 96 #[.int .u64 f] (((w.alloc (.cells #[.int .i64 f, .int .i64 e] 93)).alloc (.cells #[.int .i64 0, .int .i64 0] 36)).drewN n) fun r w'' => r = .returned (.int .i64 t) ∧ w'' = (((w.alloc (.cells #[.int .i64 f, .int .i64 e] 93)).alloc (.cells #[.int .i64 0, .int .i64 0] 36)).drewN n)) :=
    fun n => HTZ _ (tab_below hT (below_drewN hbe n))
  have HBL : Hid (∀ W : World, Calls Tryd.prog 94 #[.int .u64 (e - f)] W fun r w' => r = .returned (.int .i64 (Lib.bitLen (e - f).toNat)) ∧ w' = W) := fun W => Tryd.bits_Len (e - f) W (by omega) (by omega)
  obtain ⟨HW⟩ : Nonempty (Hid (∀ m : Nat, m = min t (Lib.bitLen (e - f).toNat - 1) → Wid f e (32 - (m : Int)) ∧ m ≤ 32)) := ⟨fun m hm => wid_of f e t m h0 h1 h2 ht hm⟩
  obtain ⟨hb1, hb2, hb3⟩ := bitLen_bounds (e - f).toNat (by omega) (by omega)
  have hL : Lib.bitLen (e - f).toNat ≤ 64 := Lib.bitLen_le _ 64 (by omega) (by omega)
  clear hT HTZ ht hb2 hb3
  generalize Lib.bitLen (e - f).toNat = L at *
  have hwe : IntKind.u64.wrap (e - f) = e - f := by rw [wrapU]; omega
  have hwf : IntKind.u64.wrap f = f := by rw [wrapU]; omega
  have hws : IntKind.i64.wrap (e - f) = e - f := wrapI _ (by omega) (by omega)
  go_enter Tryd.func82, Tryd.ntmps82
  go_wp2
  go_quiet (first | (go_at_call 96; exact Calls.quiet_of_same (HTZ2.out _)) | (go_at_call 94; exact Calls.quiet_of_same (HBL.out _)))
  go_wp2
  refine bodyPost_ret (v := .agg #[.int .i64 f, .int .i64 (32 - min (t : Int) ((L : Int) - 1))]) (by simp [results, Tryd.results82, go_sem]) rfl ⟨⟨_, rfl, ?_⟩, ?_⟩
  · have := (HW.out (min t (L - 1)) rfl).1
    rw [show (32 : Int) - min (t : Int) ((L : Int) - 1) = 32 - ((min t (L - 1) : Nat) : Int) by omega]
    exact this
  · exact ((below_drewN hbe _).setCell (Nat.le_succ _) _).setCell (Nat.le_succ _) _
end Go.Proofs.YthehpnhjfnenoaaDoor
