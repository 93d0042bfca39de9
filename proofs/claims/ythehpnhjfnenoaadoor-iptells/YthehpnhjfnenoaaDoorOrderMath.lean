/-
  The order of right prefixes, and one in another: plain mathematics.
-/
import Derived.Test.YthehpnhjfnenoaaDoorIp2
namespace Go.Proofs.YthehpnhjfnenoaaDoor
open Go

theorem lessB_iff (aa an ba bn : Int) (ha : rt aa an = true) (hb : rt ba bn = true) : lessB aa an ba bn = true ↔ aa < ba ∨ (aa = ba ∧ an < bn) := by
  simp [lessB, ha, hb]
theorem inB_iff (qa qn pa pn : Int) (hq : rt qa qn = true) (hp : rt pa pn = true) : inB qa qn pa pn = true ↔ pn ≤ qn ∧ pa / pw pn = qa / pw pn := by
  simp [inB, hq, hp]

/-- A right prefix's address is a multiple of its size. -/
theorem rt_mul {a n : Int} (h : rt a n = true) : a = a / pw n * pw n := by
  obtain ⟨-, -, h3⟩ := (rt_iff a n).1 h
  have := Int.mul_ediv_add_emod a (pw n)
  rw [h3] at this
  rw [Int.mul_comm]
  omega
/-- q in p: p's span has q's. -/
theorem in_span {qa pa pn : Int} (hp : rt pa pn = true) (h : pa / pw pn = qa / pw pn) : pa ≤ qa ∧ qa < pa + pw pn := by
  have h1 := rt_mul hp
  have h2 := Int.mul_ediv_add_emod qa (pw pn)
  have h3 := Int.emod_nonneg qa (show pw pn ≠ 0 by have := pw_pos pn; omega)
  have h4 := Int.emod_lt_of_pos qa (show 0 < pw pn by have := pw_pos pn; omega)
  rw [← h] at h2
  rw [Int.mul_comm] at h2
  omega
theorem div_of_span {qa pa pn : Int} (hp : rt pa pn = true) (h1 : pa ≤ qa) (h2 : qa < pa + pw pn) : pa / pw pn = qa / pw pn := by
  have hpos : 0 < pw pn := by have := pw_pos pn; omega
  have h3 := rt_mul hp
  have e : qa = (qa - pa) + pa / pw pn * pw pn := by omega
  have e2 := Int.add_mul_ediv_right (qa - pa) (pa / pw pn) (show pw pn ≠ 0 by omega)
  have z : (qa - pa) / pw pn = 0 := Int.ediv_eq_zero_of_lt (by omega) (by omega)
  rw [← e, z] at e2
  omega
theorem in_iff_span {qa qn pa pn : Int} (hq : rt qa qn = true) (hp : rt pa pn = true) : inB qa qn pa pn = true ↔ pn ≤ qn ∧ pa ≤ qa ∧ qa < pa + pw pn := by
  rw [inB_iff _ _ _ _ hq hp]
  constructor
  · intro h; exact ⟨h.1, in_span hp h.2⟩
  · intro h; exact ⟨h.1, div_of_span hp h.2.1 h.2.2⟩
/-- a shorter prefix whose first address is in a longer one's span begins where that begins. -/
theorem mul_in_span {a b x k : Int} (_hk : 1 ≤ k) (hb : 1 ≤ b) (ha : a % (k * b) = 0) (hx : x % b = 0) (h1 : x ≤ a) (h2 : a < x + b) : a = x := by
  have hab : a % b = 0 := by
    have e := Int.mul_ediv_add_emod a (k * b)
    rw [ha] at e
    have : a = (a / (k * b) * k) * b := by rw [Int.mul_assoc, Int.mul_comm]; omega
    rw [this]; exact Int.mul_emod_left _ _
  have e1 := Int.mul_ediv_add_emod a b
  have e2 := Int.mul_ediv_add_emod x b
  rw [hab] at e1
  rw [hx] at e2
  have hq : a / b = x / b := by
    have hd : b * (a / b) < b * (x / b) + b := by omega
    have hd2 : b * (x / b) ≤ b * (a / b) := by omega
    have h3 : x / b ≤ a / b := Int.le_of_mul_le_mul_left hd2 (by omega)
    have h4 : a / b < x / b + 1 := by
      have : b * (a / b) < b * (x / b + 1) := by rw [Int.mul_add]; omega
      exact Int.lt_of_mul_lt_mul_left this (by omega)
    omega
  rw [hq] at e1
  omega

theorem less_self {pa pn : Int} (hp : rt pa pn = true) : lessB pa pn pa pn = false := by
  rw [Bool.eq_false_iff]; intro h
  rw [lessB_iff _ _ _ _ hp hp] at h
  omega
theorem in_self {pa pn : Int} (hp : rt pa pn = true) : inB pa pn pa pn = true := by
  rw [inB_iff _ _ _ _ hp hp]; exact ⟨Int.le_refl _, rfl⟩

theorem less_one {pa pn qa qn : Int} (hp : rt pa pn = true) (hq : rt qa qn = true) (hne : ¬ (pa = qa ∧ pn = qn)) : (lessB pa pn qa qn = true ∧ lessB qa qn pa pn = false) ∨ (lessB pa pn qa qn = false ∧ lessB qa qn pa pn = true) := by
  have h1 := lessB_iff _ _ _ _ hp hq
  have h2 := lessB_iff _ _ _ _ hq hp
  by_cases h : pa < qa ∨ (pa = qa ∧ pn < qn)
  · left; exact ⟨h1.2 h, by rw [Bool.eq_false_iff]; intro h'; have := h2.1 h'; omega⟩
  · right; exact ⟨by rw [Bool.eq_false_iff]; intro h'; exact h (h1.1 h'), h2.2 (by omega)⟩
theorem in_less {pa pn qa qn : Int} (hp : rt pa pn = true) (hq : rt qa qn = true) (hne : ¬ (pa = qa ∧ pn = qn)) (h : inB pa pn qa qn = true) : lessB qa qn pa pn = true := by
  obtain ⟨h1, h2, -⟩ := (in_iff_span hp hq).1 h
  rw [lessB_iff _ _ _ _ hq hp]
  omega
theorem less_trans {pa pn qa qn sa sn : Int} (hp : rt pa pn = true) (hq : rt qa qn = true) (hs : rt sa sn = true) (h1 : lessB pa pn qa qn = true) (h2 : lessB qa qn sa sn = true) : lessB pa pn sa sn = true := by
  rw [lessB_iff _ _ _ _ hp hq] at h1
  rw [lessB_iff _ _ _ _ hq hs] at h2
  rw [lessB_iff _ _ _ _ hp hs]
  omega
theorem in_trans {pa pn qa qn sa sn : Int} (hp : rt pa pn = true) (hq : rt qa qn = true) (hs : rt sa sn = true) (h1 : inB pa pn qa qn = true) (h2 : inB qa qn sa sn = true) : inB pa pn sa sn = true := by
  obtain ⟨a1, a2, a3⟩ := (in_iff_span hp hq).1 h1
  obtain ⟨b1, b2, b3⟩ := (in_iff_span hq hs).1 h2
  obtain ⟨-, ⟨q0, q1⟩, hqm⟩ := (rt_iff qa qn).1 hq
  obtain ⟨-, ⟨s0, s1⟩, hsm⟩ := (rt_iff sa sn).1 hs
  rw [in_iff_span hp hs]
  refine ⟨by omega, by omega, ?_⟩
  -- q's span ends no later than s's
  obtain ⟨k, hk, hkk⟩ := pw_dvd sn qn b1 q1
  have hpos := pw_pos qn
  have : qa + pw qn ≤ sa + pw sn := by
    rcases Int.lt_or_le (sa + pw sn) (qa + pw qn) with hlt | hle
    · exfalso
      -- then s's end lies inside q's span, and is a multiple of q's size
      have hend : (sa + pw sn) % (1 * pw qn) = 0 := by
        rw [Int.one_mul]
        have e := Int.mul_ediv_add_emod sa (pw sn)
        rw [hsm] at e
        have : sa + pw sn = ((sa / pw sn + 1) * k) * pw qn := by
          rw [Int.mul_assoc, ← hkk, Int.add_mul, Int.mul_comm (sa / pw sn)]; omega
        rw [this]; exact Int.mul_emod_left _ _
      have := mul_in_span (a := sa + pw sn) (b := pw qn) (x := qa) (k := 1) (by omega) hpos hend hqm (by omega) (by omega)
      omega
    · exact hle
  omega
/-- between one and what is in it stands nothing apart from it. -/
theorem between {pa pn qa qn sa sn : Int} (hp : rt pa pn = true) (hq : rt qa qn = true) (hs : rt sa sn = true) (h1 : lessB pa pn qa qn = true) (h2 : lessB qa qn sa sn = true) (h3 : inB sa sn pa pn = true) : inB qa qn pa pn = true := by
  obtain ⟨a1, a2, a3⟩ := (in_iff_span hs hp).1 h3
  rw [lessB_iff _ _ _ _ hp hq] at h1
  rw [lessB_iff _ _ _ _ hq hs] at h2
  obtain ⟨-, ⟨q0, q1⟩, hqm⟩ := (rt_iff qa qn).1 hq
  obtain ⟨-, ⟨p0, p1⟩, hpm⟩ := (rt_iff pa pn).1 hp
  rw [in_iff_span hq hp]
  refine ⟨?_, by omega, by omega⟩
  rcases Int.lt_or_le qn pn with hlt | hle
  · exfalso
    obtain ⟨k, hk, hkk⟩ := pw_dvd qn pn (by omega) p1
    rw [hkk] at hqm
    have := mul_in_span hk (pw_pos pn) hqm hpm (by omega) (by omega)
    omega
  · exact hle
end Go.Proofs.YthehpnhjfnenoaaDoor
