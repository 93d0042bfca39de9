/-
  The functions of package ip that look at an address or a prefix: what each returns, whatever memory it is called in; nothing that was there turns.
-/
import Derived.Test.YthehpnhjfnenoaaDoorBase0
import Derived.WalkKit
import Derived.BigQuiet
import Derived.Deep.QuietTactic
import Derived.Deep.RegionHeld3
import Derived.Deep.DrawnRows
import Derived.WalkSmall
import Derived.RowKitTokens
namespace Go.Proofs.YthehpnhjfnenoaaDoor
open Go.RowKit

theorem rest_wrap (n : Int) (h0 : 0 ≤ n) (_h1 : n ≤ 32) : wrap64 (wrap64 (2 ^ (32 - n).toNat) - 1) = pw n - 1 := by
  have h2 := pw_pos n
  have h3 := pw_le n h0
  rw [show (2 : Int) ^ (32 - n).toNat = pw n from rfl, wrap64_id (pw n) (by omega) (by omega), wrap64_id _ (by omega) (by omega)]

theorem isAddr_any (a : Int) (w : World) : Calls Tryd.prog 46 #[.int .i64 a] w fun e w' => e = .returned (.bool (isA a)) ∧ w' = w := by
  go_enter Tryd.func46, Tryd.ntmps46
  go_wp2
  go_ret
  exact ⟨by simp [← shr32], rfl⟩

theorem isLen_any (n : Int) (w : World) : Calls Tryd.prog 47 #[.int .i64 n] w fun e w' => e = .returned (.bool (isL n)) ∧ w' = w := by
  by_cases h0 : 0 ≤ n
  · by_cases h1 : n ≤ 32
    all_goals
      go_enter Tryd.func47, Tryd.ntmps47
      go_wp2
      go_ret
      exact ⟨by simp [isL, h0, h1], rfl⟩
  · go_enter Tryd.func47, Tryd.ntmps47
    go_wp2
    go_ret
    exact ⟨by simp [isL]; omega, rfl⟩

theorem restBits_any (n : Int) (w : World) (h0 : 0 ≤ n) (h1 : n ≤ 32) : Calls Tryd.prog 48 #[.int .i64 n] w fun e w' => e = .returned (.int .i64 (pw n - 1)) ∧ w' = w := by
  go_enter Tryd.func48, Tryd.ntmps48
  go_wp2
  go_ret
  exact ⟨ret_int (rest_wrap n h0 h1), rfl⟩

theorem alike_any (a b n : Int) (w : World) (ha : isA a = true) (hb : isA b = true) (h0 : 0 ≤ n) (h1 : n ≤ 32) : Calls Tryd.prog 50 #[.int .i64 a, .int .i64 b, .int .i64 n] w fun e w' => e = .returned (.bool (a / pw n == b / pw n)) ∧ w' = w := by
  go_enter Tryd.func50, Tryd.ntmps50
  go_wp2
  go_ret
  obtain ⟨x1, x2⟩ := (isA_iff a).1 ha
  obtain ⟨y1, y2⟩ := (isA_iff b).1 hb
  exact ⟨ret_bool (alike_eq a b n x1 x2 y1 y2 h0 h1), rfl⟩

/-- The two errors of package api that Check hands back lie somewhere (et: ErrText's, where a walk wants it: IpEnv). -/
structure IpErrs (w : World) (et eb es : Addr) : Prop where
  text : et = et
  bound : w.cell? ⟨1, 0, none⟩ = some (.iface 72 (.pointer (some eb)))
  shape : w.cell? ⟨2, 0, none⟩ = some (.iface 72 (.pointer (some es)))

theorem IpErrs.below {w w' : World} {et eb es : Addr} (h : IpErrs w et eb es) (hb : Below w.heap.size w w') : IpErrs w' et eb es :=
  ⟨rfl, cell_kept hb h.bound, cell_kept hb h.shape⟩
/-- the three ways of Check. -/
def chk (a n : Int) (eb es : Addr) : Value :=
  if isA a = true ∧ isL n = true then (if a % pw n = 0 then .nilIface else .iface 72 (.pointer (some es))) else .iface 72 (.pointer (some eb))
theorem chk_nil (a n : Int) (eb es : Addr) (h : rt a n = true) : chk a n eb es = .nilIface := by
  obtain ⟨h1, h2, h3⟩ := (rt_iff a n).1 h
  unfold chk
  rw [if_pos ⟨(isA_iff a).2 h1, (isL_iff n).2 h2⟩, if_pos h3]
theorem chk_err (a n : Int) (eb es : Addr) (h : rt a n = false) : ∃ x, chk a n eb es = .iface 72 (.pointer (some x)) := by
  unfold chk
  by_cases h1 : isA a = true ∧ isL n = true
  · rw [if_pos h1]
    by_cases h2 : a % pw n = 0
    · exact absurd ((rt_iff a n).2 ⟨(isA_iff a).1 h1.1, (isL_iff n).1 h1.2, h2⟩) (by simp [h])
    · rw [if_neg h2]; exact ⟨es, rfl⟩
  · rw [if_neg h1]; exact ⟨eb, rfl⟩

set_option maxHeartbeats 1000000 in
theorem check_any (a n : Int) (et eb es : Addr) (w : World) (hE : IpErrs w et eb es) :
    Calls Tryd.prog 13 #[.agg #[.int .i64 a, .int .i64 n]] w fun e w' => e = .returned (chk a n eb es) ∧ Below w.heap.size w w' := by
  have hg1 := hE.bound
  have hg2 := hE.shape
  have hl1 : 1 < w.heap.size := cell_lt' hg1
  have hl2 : 2 < w.heap.size := cell_lt' hg2
  clear hE
  cases hA : isA a with
  | false =>
    have hc : chk a n eb es = .iface 72 (.pointer (some eb)) := by simp [chk, hA]
    rw [hc]
    clear hc
    go_enter Tryd.func13, Tryd.ntmps13
    go_wp2_with (go_at_call 46; refine (isAddr_any _ _).mono ?_; rintro e w' ⟨rfl, rfl⟩)
    go_ret
    exact ⟨rfl, (Below.refl _ _).alloc (Nat.le_refl _) _⟩
  | true =>
    cases hL : isL n with
    | false =>
      have hc : chk a n eb es = .iface 72 (.pointer (some eb)) := by simp [chk, hL]
      rw [hc]
      clear hc
      go_enter Tryd.func13, Tryd.ntmps13
      go_wp2_with (first | (go_at_call 46; refine (isAddr_any _ _).mono ?_; rintro e w' ⟨rfl, rfl⟩) | (go_at_call 47; refine (isLen_any _ _).mono ?_; rintro e w' ⟨rfl, rfl⟩))
      go_ret
      exact ⟨rfl, (Below.refl _ _).alloc (Nat.le_refl _) _⟩
    | true =>
      obtain ⟨a0, a1⟩ := (isA_iff a).1 hA
      obtain ⟨n0, n1⟩ := (isL_iff n).1 hL
      have hand := and_rest a n a0 a1 n0 n1
      by_cases hm : a % pw n = 0
      · have hb : (bits .and .i64 a (pw n - 1) != 0) = false := by rw [hand, hm]; rfl
        have hc : chk a n eb es = .nilIface := by simp [chk, hA, hL, hm]
        rw [hc]
        clear hc hm hand
        go_enter Tryd.func13, Tryd.ntmps13
        go_wp2_with (first | (go_at_call 46; refine (isAddr_any _ _).mono ?_; rintro e w' ⟨rfl, rfl⟩) | (go_at_call 47; refine (isLen_any _ _).mono ?_; rintro e w' ⟨rfl, rfl⟩))
        go_quiet ((go_at_call 48; exact Calls.quiet_of_same (restBits_any n _ n0 n1)))
        go_wp2
        go_ret
        exact ⟨rfl, below_drewN ((Below.refl _ _).alloc (Nat.le_refl _) _) _⟩
      · have hb : (bits .and .i64 a (pw n - 1) != 0) = true := by rw [hand, bne_iff_ne]; exact hm
        have hc : chk a n eb es = .iface 72 (.pointer (some es)) := by simp [chk, hA, hL, hm]
        rw [hc]
        clear hc hm hand
        go_enter Tryd.func13, Tryd.ntmps13
        go_wp2_with (first | (go_at_call 46; refine (isAddr_any _ _).mono ?_; rintro e w' ⟨rfl, rfl⟩) | (go_at_call 47; refine (isLen_any _ _).mono ?_; rintro e w' ⟨rfl, rfl⟩))
        go_quiet ((go_at_call 48; exact Calls.quiet_of_same (restBits_any n _ n0 n1)))
        go_wp2
        go_ret
        exact ⟨rfl, below_drewN ((Below.refl _ _).alloc (Nat.le_refl _) _) _⟩

set_option maxHeartbeats 1000000 in
theorem right_any (a n : Int) (et eb es : Addr) (w : World) (hE : IpErrs w et eb es) :
    Calls Tryd.prog 49 #[.agg #[.int .i64 a, .int .i64 n]] w fun e w' => e = .returned (.bool (rt a n)) ∧ Below w.heap.size w w' := by
  have HC : Hid (Calls Tryd.prog 13 #[.agg #[.int .i64 a, .int .i64 n]] (w.alloc (.cells #[.int .i64 a, .int .i64 n] 36)) fun e w' => e = .returned (chk a n eb es) ∧ Below w.heap.size w w') := by
    have hb : Below w.heap.size w (w.alloc (.cells #[.int .i64 a, .int .i64 n] 36)) := (Below.refl _ _).alloc (Nat.le_refl _) _
    refine (check_any a n et eb es _ (hE.below hb)).mono ?_
    rintro e w' ⟨rfl, h⟩
    exact ⟨rfl, hb.trans (h.mono hb.size)⟩
  clear hE
  cases hr : rt a n with
  | true =>
    have hc := chk_nil a n eb es hr
    rw [hc] at HC
    clear hc hr
    go_enter Tryd.func49, Tryd.ntmps49
    go_wp2_with (go_at_call 13; refine HC.out.mono ?_; rintro e w1 ⟨rfl, hb1⟩)
    go_ret
    exact ⟨rfl, hb1⟩
  | false =>
    obtain ⟨x, hc⟩ := chk_err a n eb es hr
    rw [hc] at HC
    clear hc hr
    go_enter Tryd.func49, Tryd.ntmps49
    go_wp2_with (go_at_call 13; refine HC.out.mono ?_; rintro e w1 ⟨rfl, hb1⟩)
    go_ret
    exact ⟨rfl, hb1⟩
end Go.Proofs.YthehpnhjfnenoaaDoor
