/-
  ip.Has, ip.In, ip.Less, ip.Size: what each returns.
-/
import Derived.Test.YthehpnhjfnenoaaGreatDoorIp
namespace Go.Proofs.YthehpnhjfnenoaaGreatDoor
open Go.RowKit

theorem IpErrs.alloc {w : World} {et eb es : Addr} (h : IpErrs w et eb es) (o : Obj) : IpErrs (w.alloc o) et eb es := h.below (below_alloc w o)

def hasB (p n a : Int) : Bool := rt p n && isA a && (p / pw n == a / pw n)
def inB (qa qn pa pn : Int) : Bool := rt qa qn && rt pa pn && decide (pn ≤ qn) && (pa / pw pn == qa / pw pn)
def lessB (aa an ba bn : Int) : Bool := rt aa an && rt ba bn && (decide (aa < ba) || (aa == ba && decide (an < bn)))
def sizeI (a n : Int) : Int := if rt a n = true then pw n else 0

theorem rt_isA {a n : Int} (h : rt a n = true) : isA a = true := (isA_iff a).2 ((rt_iff a n).1 h).1
theorem rt_len {a n : Int} (h : rt a n = true) : 0 ≤ n ∧ n ≤ 32 := ((rt_iff a n).1 h).2.1

set_option maxHeartbeats 1000000 in
theorem has_any (p n a : Int) (et eb es : Addr) (w : World) (hE : IpErrs w et eb es) :
    Calls Tryz.prog 26 #[.agg #[.int .i64 p, .int .i64 n], .int .i64 a] w fun e w' => e = .returned (.bool (hasB p n a)) ∧ Below w.heap.size w w' := by
  cases hr : rt p n with
  | false =>
    have hc : hasB p n a = false := by simp [hasB, hr]
    rw [hc]; clear hc
    go_enter Tryz.func26, Tryz.ntmps26
    go_wp2_with (go_at_call 45; refine (right_any _ _ et eb es _ (hE.alloc _)).mono ?_; rintro e w1 ⟨rfl, hb1⟩)
    go_ret
    exact ⟨rfl, (below_alloc w _).trans (hb1.mono (by simp))⟩
  | true =>
    have hl := rt_len hr
    have hp := rt_isA hr
    cases hA : isA a with
    | false =>
      have hc : hasB p n a = false := by simp [hasB, hA]
      rw [hc]; clear hc
      go_enter Tryz.func26, Tryz.ntmps26
      go_wp2_with (first | (go_at_call 45; refine (right_any _ _ et eb es _ (hE.alloc _)).mono ?_; rintro e w1 ⟨rfl, hb1⟩) | (go_at_call 46; refine (isAddr_any _ _).mono ?_; rintro e w2 ⟨rfl, rfl⟩))
      go_ret
      exact ⟨rfl, (below_alloc w _).trans (hb1.mono (by simp))⟩
    | true =>
      have hc : hasB p n a = (p / pw n == a / pw n) := by simp [hasB, hr, hA]
      rw [hc]; clear hc
      go_enter Tryz.func26, Tryz.ntmps26
      go_wp2_with (first | (go_at_call 45; refine (right_any _ _ et eb es _ (hE.alloc _)).mono ?_; rintro e w1 ⟨rfl, hb1⟩; obtain ⟨hc1, hf1⟩ := bcell hb1) | (go_at_call 46; refine (isAddr_any _ _).mono ?_; rintro e w2 ⟨rfl, rfl⟩) | (go_at_call 47; refine (alike_any p a n _ hp hA hl.1 hl.2).mono ?_; rintro e w2 ⟨rfl, rfl⟩))
      go_ret
      exact ⟨rfl, (below_alloc w _).trans (hb1.mono (by simp))⟩
set_option maxHeartbeats 1000000 in
theorem size_any (a n : Int) (et eb es : Addr) (w : World) (hE : IpErrs w et eb es) :
    Calls Tryz.prog 32 #[.agg #[.int .i64 a, .int .i64 n]] w fun e w' => e = .returned (.int .i64 (sizeI a n)) ∧ Below w.heap.size w w' := by
  cases hr : rt a n with
  | false =>
    have hc : sizeI a n = 0 := by simp [sizeI, hr]
    rw [hc]; clear hc
    go_enter Tryz.func32, Tryz.ntmps32
    go_wp2_with fail
    refine (right_any a n et eb es _ (hE.alloc _)).mono ?_
    rintro e w1 ⟨rfl, hb1⟩
    go_wp2
    go_ret
    exact ⟨rfl, (below_alloc w _).trans (hb1.mono (by simp))⟩
  | true =>
    have hc : sizeI a n = pw n := by simp [sizeI, hr]
    have hl := rt_len hr
    rw [hc]; clear hc
    go_enter Tryz.func32, Tryz.ntmps32
    go_wp2_with fail
    refine (right_any a n et eb es _ (hE.alloc _)).mono ?_
    rintro e w1 ⟨rfl, hb1⟩
    obtain ⟨hc1, hf1⟩ := bcell hb1
    go_wp2
    go_ret
    have h2 := pw_pos n
    have h3 := pw_le n hl.1
    refine ⟨ret_int ?_, (below_alloc w _).trans (hb1.mono (by simp))⟩
    rw [show (2 : Int) ^ (32 - n).toNat = pw n from rfl, wrap64_id (pw n) (by omega) (by omega)]
end Go.Proofs.YthehpnhjfnenoaaGreatDoor
