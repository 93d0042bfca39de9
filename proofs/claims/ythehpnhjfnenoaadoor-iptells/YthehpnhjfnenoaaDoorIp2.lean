/-
  ip.Has, ip.In, ip.Less, ip.Size: what each returns.
-/
import Derived.Test.YthehpnhjfnenoaaDoorIp
namespace Go.Proofs.YthehpnhjfnenoaaDoor
open Go.RowKit

theorem IpErrs.alloc {w : World} {et eb es : Addr} (h : IpErrs w et eb es) (o : Obj) : IpErrs (w.alloc o) et eb es := h.below (below_alloc w o)

def hasB (p n a : Int) : Bool := rt p n && isA a && (p / pw n == a / pw n)
def inB (qa qn pa pn : Int) : Bool := rt qa qn && rt pa pn && decide (pn ≤ qn) && (pa / pw pn == qa / pw pn)
def lessB (aa an ba bn : Int) : Bool := rt aa an && rt ba bn && (decide (aa < ba) || (aa == ba && decide (an < bn)))
def sizeI (a n : Int) : Int := if rt a n = true then pw n else 0

theorem rt_isA {a n : Int} (h : rt a n = true) : isA a = true := (isA_iff a).2 ((rt_iff a n).1 h).1
theorem rt_len {a n : Int} (h : rt a n = true) : 0 ≤ n ∧ n ≤ 32 := ((rt_iff a n).1 h).2.1

set_option maxHeartbeats 1000000 in
theorem has_any (p n a : Int) (et eb es : Addr) (w : World) (hE : IpErrs w et eb es) :
    Calls Tryd.prog 15 #[.agg #[.int .i64 p, .int .i64 n], .int .i64 a] w fun e w' => e = .returned (.bool (hasB p n a)) ∧ Below w.heap.size w w' := by
  cases hr : rt p n with
  | false =>
    have hc : hasB p n a = false := by simp [hasB, hr]
    rw [hc]; clear hc
    go_enter Tryd.func15, Tryd.ntmps15
    go_wp2_with (go_at_call 49; refine (right_any _ _ et eb es _ (hE.alloc _)).mono ?_; rintro e w1 ⟨rfl, hb1⟩)
    go_ret
    exact ⟨rfl, (below_alloc w _).trans (hb1.mono (by simp))⟩
  | true =>
    have hl := rt_len hr
    have hp := rt_isA hr
    cases hA : isA a with
    | false =>
      have hc : hasB p n a = false := by simp [hasB, hA]
      rw [hc]; clear hc
      go_enter Tryd.func15, Tryd.ntmps15
      go_wp2_with (first | (go_at_call 49; refine (right_any _ _ et eb es _ (hE.alloc _)).mono ?_; rintro e w1 ⟨rfl, hb1⟩) | (go_at_call 46; refine (isAddr_any _ _).mono ?_; rintro e w2 ⟨rfl, rfl⟩))
      go_ret
      exact ⟨rfl, (below_alloc w _).trans (hb1.mono (by simp))⟩
    | true =>
      have hc : hasB p n a = (p / pw n == a / pw n) := by simp [hasB, hr, hA]
      rw [hc]; clear hc
      go_enter Tryd.func15, Tryd.ntmps15
      go_wp2_with (first | (go_at_call 49; refine (right_any _ _ et eb es _ (hE.alloc _)).mono ?_; rintro e w1 ⟨rfl, hb1⟩; obtain ⟨hc1, hf1⟩ := bcell hb1) | (go_at_call 46; refine (isAddr_any _ _).mono ?_; rintro e w2 ⟨rfl, rfl⟩) | (go_at_call 50; refine (alike_any p a n _ hp hA hl.1 hl.2).mono ?_; rintro e w2 ⟨rfl, rfl⟩))
      go_ret
      exact ⟨rfl, (below_alloc w _).trans (hb1.mono (by simp))⟩
set_option maxHeartbeats 1000000 in
theorem in_any (qa qn pa pn : Int) (et eb es : Addr) (w : World) (hE : IpErrs w et eb es) :
    Calls Tryd.prog 19 #[.agg #[.int .i64 qa, .int .i64 qn], .agg #[.int .i64 pa, .int .i64 pn]] w fun e w' => e = .returned (.bool (inB qa qn pa pn)) ∧ Below w.heap.size w w' := by
  have hbw : ∀ (o1 o2 : Obj) (w1 : World), Below ((w.alloc o1).alloc o2).heap.size ((w.alloc o1).alloc o2) w1 → Below w.heap.size w w1 := fun o1 o2 w1 h => ((below_alloc w o1).trans ((below_alloc (w.alloc o1) o2).mono (by simp))).trans (h.mono (by simp; omega))
  cases hq : rt qa qn with
  | false =>
    have hc : inB qa qn pa pn = false := by simp [inB, hq]
    rw [hc]; clear hc
    go_enter Tryd.func19, Tryd.ntmps19
    go_wp2_with (go_at_call 49; refine (right_any _ _ et eb es _ ((hE.alloc _).alloc _)).mono ?_; rintro e w1 ⟨rfl, hb1⟩)
    go_ret
    exact ⟨rfl, hbw _ _ _ hb1⟩
  | true =>
    cases hp : rt pa pn with
    | false =>
      have hc : inB qa qn pa pn = false := by simp [inB, hp]
      rw [hc]; clear hc
      go_enter Tryd.func19, Tryd.ntmps19
      go_wp2_with fail
      refine (right_any qa qn et eb es _ ((hE.alloc _).alloc _)).mono ?_
      rintro e w1 ⟨rfl, hb1⟩
      obtain ⟨hc1, hf1⟩ := bcell hb1
      go_wp2_with fail
      refine (right_any pa pn et eb es _ (((hE.alloc _).alloc _).below hb1)).mono ?_
      rintro e w2 ⟨rfl, hb2⟩
      go_wp2
      go_ret
      exact ⟨rfl, (hbw _ _ _ hb1).trans (hb2.mono (hbw _ _ _ hb1).size)⟩
    | true =>
      have hl := rt_len hp
      have hpA := rt_isA hp
      have hqA := rt_isA hq
      by_cases hle : pn ≤ qn
      · have hc : inB qa qn pa pn = (pa / pw pn == qa / pw pn) := by simp [inB, hp, hq, hle]
        rw [hc]; clear hc
        go_enter Tryd.func19, Tryd.ntmps19
        go_wp2_with fail
        refine (right_any qa qn et eb es _ ((hE.alloc _).alloc _)).mono ?_
        rintro e w1 ⟨rfl, hb1⟩
        obtain ⟨hc1, hf1⟩ := bcell hb1
        have hz1 : w.heap.size + 1 < w1.heap.size := by have := hb1.size; simp at this; omega
        have hz0 : w.heap.size < w1.heap.size := by omega
        go_wp2_with fail
        refine (right_any pa pn et eb es _ (((hE.alloc _).alloc _).below hb1)).mono ?_
        rintro e w2 ⟨rfl, hb2⟩
        obtain ⟨hc2, hf2⟩ := bcell hb2
        go_wp2_with fail
        refine (alike_any pa qa pn _ hpA hqA hl.1 hl.2).mono ?_
        rintro e w3 ⟨rfl, rfl⟩
        go_wp2
        go_ret
        exact ⟨rfl, (hbw _ _ _ hb1).trans (hb2.mono (hbw _ _ _ hb1).size)⟩
      · have hc : inB qa qn pa pn = false := by simp [inB, hle]
        rw [hc]; clear hc
        go_enter Tryd.func19, Tryd.ntmps19
        go_wp2_with fail
        refine (right_any qa qn et eb es _ ((hE.alloc _).alloc _)).mono ?_
        rintro e w1 ⟨rfl, hb1⟩
        obtain ⟨hc1, hf1⟩ := bcell hb1
        have hz1 : w.heap.size + 1 < w1.heap.size := by have := hb1.size; simp at this; omega
        have hz0 : w.heap.size < w1.heap.size := by omega
        go_wp2_with fail
        refine (right_any pa pn et eb es _ (((hE.alloc _).alloc _).below hb1)).mono ?_
        rintro e w2 ⟨rfl, hb2⟩
        obtain ⟨hc2, hf2⟩ := bcell hb2
        go_wp2
        go_ret
        exact ⟨rfl, (hbw _ _ _ hb1).trans (hb2.mono (hbw _ _ _ hb1).size)⟩
set_option maxHeartbeats 1000000 in
theorem less_any (aa an ba bn : Int) (et eb es : Addr) (w : World) (hE : IpErrs w et eb es) :
    Calls Tryd.prog 16 #[.agg #[.int .i64 aa, .int .i64 an], .agg #[.int .i64 ba, .int .i64 bn]] w fun e w' => e = .returned (.bool (lessB aa an ba bn)) ∧ Below w.heap.size w w' := by
  have hbw : ∀ (o1 o2 : Obj) (w1 : World), Below ((w.alloc o1).alloc o2).heap.size ((w.alloc o1).alloc o2) w1 → Below w.heap.size w w1 := fun o1 o2 w1 h => ((below_alloc w o1).trans ((below_alloc (w.alloc o1) o2).mono (by simp))).trans (h.mono (by simp; omega))
  cases hq : rt aa an with
  | false =>
    have hc : lessB aa an ba bn = false := by simp [lessB, hq]
    rw [hc]; clear hc
    go_enter Tryd.func16, Tryd.ntmps16
    go_wp2_with fail
    refine (right_any aa an et eb es _ ((hE.alloc _).alloc _)).mono ?_
    rintro e w1 ⟨rfl, hb1⟩
    go_wp2
    go_ret
    exact ⟨rfl, hbw _ _ _ hb1⟩
  | true =>
    cases hp : rt ba bn with
    | false =>
      have hc : lessB aa an ba bn = false := by simp [lessB, hp]
      rw [hc]; clear hc
      go_enter Tryd.func16, Tryd.ntmps16
      go_wp2_with fail
      refine (right_any aa an et eb es _ ((hE.alloc _).alloc _)).mono ?_
      rintro e w1 ⟨rfl, hb1⟩
      obtain ⟨hc1, hf1⟩ := bcell hb1
      go_wp2_with fail
      refine (right_any ba bn et eb es _ (((hE.alloc _).alloc _).below hb1)).mono ?_
      rintro e w2 ⟨rfl, hb2⟩
      go_wp2
      go_ret
      exact ⟨rfl, (hbw _ _ _ hb1).trans (hb2.mono (hbw _ _ _ hb1).size)⟩
    | true =>
      by_cases hne : (aa != ba) = true
      · have hc : lessB aa an ba bn = decide (aa < ba) := by
          have : aa ≠ ba := by simpa using hne
          simp [lessB, hp, hq, this]
        rw [hc]; clear hc
        go_enter Tryd.func16, Tryd.ntmps16
        go_wp2_with fail
        refine (right_any aa an et eb es _ ((hE.alloc _).alloc _)).mono ?_
        rintro e w1 ⟨rfl, hb1⟩
        obtain ⟨hc1, hf1⟩ := bcell hb1
        have hz1 : w.heap.size + 1 < w1.heap.size := by have := hb1.size; simp at this; omega
        have hz0 : w.heap.size < w1.heap.size := by omega
        go_wp2_with fail
        refine (right_any ba bn et eb es _ (((hE.alloc _).alloc _).below hb1)).mono ?_
        rintro e w2 ⟨rfl, hb2⟩
        obtain ⟨hc2, hf2⟩ := bcell hb2
        go_wp2
        go_ret
        exact ⟨rfl, (hbw _ _ _ hb1).trans (hb2.mono (hbw _ _ _ hb1).size)⟩
      · have hne' : (aa != ba) = false := by simpa using hne
        have hc : lessB aa an ba bn = decide (an < bn) := by
          have : aa = ba := by simpa using hne
          subst this
          simp [lessB, hp, hq]
        rw [hc]; clear hc hne
        go_enter Tryd.func16, Tryd.ntmps16
        go_wp2_with fail
        refine (right_any aa an et eb es _ ((hE.alloc _).alloc _)).mono ?_
        rintro e w1 ⟨rfl, hb1⟩
        obtain ⟨hc1, hf1⟩ := bcell hb1
        have hz1 : w.heap.size + 1 < w1.heap.size := by have := hb1.size; simp at this; omega
        have hz0 : w.heap.size < w1.heap.size := by omega
        go_wp2_with fail
        refine (right_any ba bn et eb es _ (((hE.alloc _).alloc _).below hb1)).mono ?_
        rintro e w2 ⟨rfl, hb2⟩
        obtain ⟨hc2, hf2⟩ := bcell hb2
        go_wp2
        go_ret
        exact ⟨rfl, (hbw _ _ _ hb1).trans (hb2.mono (hbw _ _ _ hb1).size)⟩
set_option maxHeartbeats 1000000 in
theorem size_any (a n : Int) (et eb es : Addr) (w : World) (hE : IpErrs w et eb es) :
    Calls Tryd.prog 18 #[.agg #[.int .i64 a, .int .i64 n]] w fun e w' => e = .returned (.int .i64 (sizeI a n)) ∧ Below w.heap.size w w' := by
  cases hr : rt a n with
  | false =>
    have hc : sizeI a n = 0 := by simp [sizeI, hr]
    rw [hc]; clear hc
    go_enter Tryd.func18, Tryd.ntmps18
    go_wp2_with fail
    refine (right_any a n et eb es _ (hE.alloc _)).mono ?_
    rintro e w1 ⟨rfl, hb1⟩
    go_wp2
    go_ret
    exact ⟨rfl, (below_alloc w _).trans (hb1.mono (by simp))⟩
  | true =>
    have hc : sizeI a n = pw n := by simp [sizeI, hr]
    have hl := rt_len hr
    rw [hc]; clear hc
    go_enter Tryd.func18, Tryd.ntmps18
    go_wp2_with fail
    refine (right_any a n et eb es _ (hE.alloc _)).mono ?_
    rintro e w1 ⟨rfl, hb1⟩
    obtain ⟨hc1, hf1⟩ := bcell hb1
    go_wp2
    go_ret
    have h2 := pw_pos n
    have h3 := pw_le n hl.1
    refine ⟨ret_int ?_, (below_alloc w _).trans (hb1.mono (by simp))⟩
    rw [show (2 : Int) ^ (32 - n).toNat = pw n from rfl, wrap64_id (pw n) (by omega) (by omega)]
end Go.Proofs.YthehpnhjfnenoaaDoor
