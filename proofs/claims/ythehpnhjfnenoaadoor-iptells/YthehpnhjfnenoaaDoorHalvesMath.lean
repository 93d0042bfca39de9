/-
  Halves of a prefix, the one above, two prefixes with an address in common: plain mathematics.
-/
import Derived.Test.YthehpnhjfnenoaaDoorOrderMath
namespace Go.Proofs.YthehpnhjfnenoaaDoor
open Go

theorem hasB_iff {p n a : Int} (h : rt p n = true) (hA : isA a = true) : hasB p n a = true ↔ p ≤ a ∧ a < p + pw n := by
  simp only [hasB, h, hA, Bool.true_and, beq_iff_eq]
  constructor
  · intro e; exact in_span h e
  · intro e; exact div_of_span h e.1 e.2
theorem hasB_not {p n a : Int} (hA : isA a = false) : hasB p n a = false := by simp [hasB, hA]
theorem hasB_isA {p n a : Int} (h : hasB p n a = true) : isA a = true := by
  cases hA : isA a with
  | true => rfl
  | false => rw [hasB_not hA] at h; cases h

section
variable {a n : Int}
theorem rt_x (h : rt a n = true) (hn : n < 32) : rt a (n + 1) = true := by
  obtain ⟨h1, h2, h3⟩ := (rt_iff a n).1 h
  refine (rt_iff _ _).2 ⟨h1, by omega, ?_⟩
  have hs := pw_step n hn
  have hp := pw_pos (n + 1)
  have e := rt_mul h
  rw [hs] at e
  have : a = (a / (2 * pw (n + 1)) * 2) * pw (n + 1) := by rw [Int.mul_assoc]; exact e
  rw [this]; exact Int.mul_emod_left _ _
theorem top_le (h : rt a n = true) : a + pw n ≤ 4294967296 := by
  obtain ⟨⟨h1, h1'⟩, ⟨h2, h2'⟩, h3⟩ := (rt_iff a n).1 h
  obtain ⟨k, hk, hkk⟩ := pw_dvd 0 n h2 h2'
  rw [pw_0] at hkk
  have hp := pw_pos n
  have e := rt_mul h
  have hq : a / pw n < k := by
    rcases Int.lt_or_le (a / pw n) k with hlt | hle
    · exact hlt
    · have := Int.mul_le_mul_of_nonneg_right hle (show 0 ≤ pw n by omega)
      omega
  have := Int.mul_le_mul_of_nonneg_right (show a / pw n + 1 ≤ k by omega) (show 0 ≤ pw n by omega)
  rw [Int.add_mul] at this
  omega
theorem rt_y (h : rt a n = true) (hn : n < 32) : rt (a + pw (n + 1)) (n + 1) = true := by
  have hx := rt_x h hn
  obtain ⟨⟨h1, h1'⟩, ⟨h2, h2'⟩, h3⟩ := (rt_iff _ _).1 hx
  have hs := pw_step n hn
  have hp := pw_pos (n + 1)
  have ht := top_le h
  refine (rt_iff _ _).2 ⟨by omega, ⟨h2, h2'⟩, ?_⟩
  rw [Int.add_emod, h3, Int.emod_self]; rfl
theorem less_xy (h : rt a n = true) (hn : n < 32) : lessB a (n + 1) (a + pw (n + 1)) (n + 1) = true := by
  rw [lessB_iff _ _ _ _ (rt_x h hn) (rt_y h hn)]
  have := pw_pos (n + 1)
  omega
/-- An address is in just one half of a prefix that has it, and in none of one that has it not. -/
theorem has_halves (h : rt a n = true) (hn : n < 32) (b : Int) : (hasB a n b = false ∧ hasB a (n + 1) b = false ∧ hasB (a + pw (n + 1)) (n + 1) b = false) ∨
    (hasB a n b = true ∧ hasB a (n + 1) b = true ∧ hasB (a + pw (n + 1)) (n + 1) b = false) ∨ (hasB a n b = true ∧ hasB a (n + 1) b = false ∧ hasB (a + pw (n + 1)) (n + 1) b = true) := by
  cases hA : isA b with
  | false => left; exact ⟨hasB_not hA, hasB_not hA, hasB_not hA⟩
  | true =>
    have h1 := hasB_iff h hA
    have h2 := hasB_iff (rt_x h hn) hA
    have h3 := hasB_iff (rt_y h hn) hA
    have hs := pw_step n hn
    have hp := pw_pos (n + 1)
    by_cases c1 : a ≤ b ∧ b < a + pw (n + 1)
    · right; left
      exact ⟨h1.2 (by omega), h2.2 c1, by rw [Bool.eq_false_iff]; intro h; have := h3.1 h; omega⟩
    · by_cases c2 : a + pw (n + 1) ≤ b ∧ b < a + pw (n + 1) + pw (n + 1)
      · right; right
        exact ⟨h1.2 (by omega), by rw [Bool.eq_false_iff]; intro h; exact c1 (h2.1 h), h3.2 c2⟩
      · left
        exact ⟨by rw [Bool.eq_false_iff]; intro h; have := h1.1 h; omega, by rw [Bool.eq_false_iff]; intro h; exact c1 (h2.1 h), by rw [Bool.eq_false_iff]; intro h; exact c2 (h3.1 h)⟩
theorem up_x (h : rt a n = true) : a - a % pw (n + 1 - 1) = a := by
  obtain ⟨h1, h2, h3⟩ := (rt_iff a n).1 h
  rw [show n + 1 - 1 = n by omega, h3]; omega
theorem up_y (h : rt a n = true) (hn : n < 32) : (a + pw (n + 1)) - (a + pw (n + 1)) % pw (n + 1 - 1) = a := by
  obtain ⟨h1, h2, h3⟩ := (rt_iff a n).1 h
  have hs := pw_step n hn
  have hp := pw_pos (n + 1)
  rw [show n + 1 - 1 = n by omega, Int.add_emod, h3, Int.zero_add, Int.emod_emod_of_dvd _ (Int.dvd_refl _), Int.emod_eq_of_lt (by omega) (by omega)]
  omega
theorem size_half (h : rt a n = true) (hn : n < 32) : sizeI a (n + 1) + sizeI (a + pw (n + 1)) (n + 1) = sizeI a n := by
  simp only [sizeI, h, rt_x h hn, rt_y h hn, if_true]
  have := pw_step n hn
  omega
theorem rt_up (h : rt a n = true) (hn : 0 < n) : rt (a - a % pw (n - 1)) (n - 1) = true := by
  obtain ⟨⟨h1, h1'⟩, h2, h3⟩ := (rt_iff a n).1 h
  have hp := pw_pos (n - 1)
  have m0 := Int.emod_nonneg a (show pw (n - 1) ≠ 0 by omega)
  have m1 := Int.emod_lt_of_pos a (show 0 < pw (n - 1) by omega)
  have e := Int.mul_ediv_add_emod a (pw (n - 1))
  have hq : 0 ≤ pw (n - 1) * (a / pw (n - 1)) := Int.mul_nonneg (by omega) (Int.ediv_nonneg h1 (by omega))
  refine (rt_iff _ _).2 ⟨by omega, by omega, ?_⟩
  have : a - a % pw (n - 1) = a / pw (n - 1) * pw (n - 1) := by rw [Int.mul_comm]; omega
  rw [this]; exact Int.mul_emod_left _ _
theorem in_up (h : rt a n = true) (hn : 0 < n) : inB a n (a - a % pw (n - 1)) (n - 1) = true := by
  have hp := pw_pos (n - 1)
  have m0 := Int.emod_nonneg a (show pw (n - 1) ≠ 0 by omega)
  have m1 := Int.emod_lt_of_pos a (show 0 < pw (n - 1) by omega)
  rw [in_iff_span h (rt_up h hn)]
  omega
theorem cut_has (h : rt a n = true) {b : Int} (hA : isA b = true) (hb : hasB a n b = true) : b - b % pw n = a := by
  obtain ⟨h1, h2, h3⟩ := (rt_iff a n).1 h
  have hp := pw_pos n
  have hs := (hasB_iff h hA).1 hb
  have hd := div_of_span h hs.1 hs.2
  have e1 := rt_mul h
  have e2 := Int.mul_ediv_add_emod b (pw n)
  rw [← hd, Int.mul_comm] at e2
  omega
theorem cut_hasnt (h : rt a n = true) {b : Int} (hA : isA b = true) (hb : hasB a n b = false) : ¬ b - b % pw n = a := by
  intro e
  have hp := pw_pos n
  have m0 := Int.emod_nonneg b (show pw n ≠ 0 by omega)
  have m1 := Int.emod_lt_of_pos b (show 0 < pw n by omega)
  have : hasB a n b = true := (hasB_iff h hA).2 (by omega)
  rw [hb] at this; cases this
end

/-- Two prefixes with an address in common: one is in the other. -/
theorem both_in {pa pn qa qn b : Int} (hp : rt pa pn = true) (hq : rt qa qn = true) (h1 : hasB pa pn b = true) (h2 : hasB qa qn b = true) : inB pa pn qa qn = true ∨ inB qa qn pa pn = true := by
  have hA := hasB_isA h1
  have s1 := (hasB_iff hp hA).1 h1
  have s2 := (hasB_iff hq hA).1 h2
  obtain ⟨-, ⟨p0, p1⟩, hpm⟩ := (rt_iff pa pn).1 hp
  obtain ⟨-, ⟨q0, q1⟩, hqm⟩ := (rt_iff qa qn).1 hq
  -- the longer one begins in the shorter one
  have key : ∀ {x xn y yn : Int}, rt x xn = true → rt y yn = true → yn ≤ xn → x ≤ b → b < x + pw xn → y ≤ b → b < y + pw yn → inB x xn y yn = true := by
    intro x xn y yn hx hy hle x0 x1 y0 y1
    obtain ⟨-, ⟨_, x32⟩, hxm⟩ := (rt_iff x xn).1 hx
    obtain ⟨-, ⟨_, y32⟩, hym⟩ := (rt_iff y yn).1 hy
    rw [in_iff_span hx hy]
    obtain ⟨k, hk, hkk⟩ := pw_dvd yn xn hle x32
    have hpx := pw_pos xn
    refine ⟨hle, ?_, ?_⟩
    · rcases Int.lt_or_le x y with hlt | hge
      · exfalso
        have hym' : y % (k * pw xn) = 0 := by rw [← hkk]; exact hym
        have := mul_in_span hk hpx hym' hxm (by omega) (by omega)
        omega
      · exact hge
    · rcases Int.lt_or_le x (y + pw yn) with hlt | hge
      · exact hlt
      · omega
  rcases Int.lt_or_le pn qn with hlt | hle
  · right; exact key hq hp (by omega) s2.1 s2.2 s1.1 s1.2
  · left; exact key hp hq hle s1.1 s1.2 s2.1 s2.2
theorem in_both {pa pn qa qn : Int} (hp : rt pa pn = true) (hq : rt qa qn = true) (h1 : inB pa pn qa qn = true) (h2 : inB qa qn pa pn = true) : pa = qa ∧ pn = qn := by
  have a1 := (in_iff_span hp hq).1 h1
  have a2 := (in_iff_span hq hp).1 h2
  omega
end Go.Proofs.YthehpnhjfnenoaaDoor
