/-
  The order of right prefixes, and one in another: plain mathematics.
  Halves of a prefix, the one above, two prefixes with an address in common: plain mathematics.
  The document's answer, chapter 1 (herepathref1): IsAddr, SizeOf, PrefixError, CutOf, HasAddr, IsIn, IsAhead, IsLess: what each returns.
  The document's answer, chapter 1 (herepathref1): PrefixError, CutOf, HasAddr, IsIn, IsAhead, IsLess: what each returns.
  The document's answer, chapter 1 (herepathref1): HasAddr, IsIn, IsLess: what each returns.
-/
import Derived.Test.YtnifhaopjhgmnaaGreatDoorGE
import Derived.RegionTactic
import Derived.Laws.ResultCell
import Derived.Deep.Cut
import Derived.Deep.CutRange
namespace Go.Proofs.YtnifhaopjhgmnaaGreatDoor
open Go

theorem lessB_iff (aa an ba bn : Int) (ha : rt aa an = true) (hb : rt ba bn = true) : lessB aa an ba bn = true ↔ aa < ba ∨ (aa = ba ∧ an < bn) := by
  simp [lessB, ha, hb]
theorem inB_iff (qa qn pa pn : Int) (hq : rt qa qn = true) (hp : rt pa pn = true) : inB qa qn pa pn = true ↔ pn ≤ qn ∧ pa / pw pn = qa / pw pn := by
  simp [inB, hq, hp]

/-- A right prefix's address is a multiple of its size. -/
theorem rt_mul {a n : Int} (h : rt a n = true) : a = a / pw n * pw n := by
  obtain ⟨-, -, h3⟩ := (rt_iff a n).1 h
  have := Int.mul_ediv_add_emod a (pw n)
  rw [h3] at this
  rw [Int.mul_comm]
  omega
/-- q in p: p's span has q's. -/
theorem in_span {qa pa pn : Int} (hp : rt pa pn = true) (h : pa / pw pn = qa / pw pn) : pa ≤ qa ∧ qa < pa + pw pn := by
  have h1 := rt_mul hp
  have h2 := Int.mul_ediv_add_emod qa (pw pn)
  have h3 := Int.emod_nonneg qa (show pw pn ≠ 0 by have := pw_pos pn; omega)
  have h4 := Int.emod_lt_of_pos qa (show 0 < pw pn by have := pw_pos pn; omega)
  rw [← h] at h2
  rw [Int.mul_comm] at h2
  omega
theorem div_of_span {qa pa pn : Int} (hp : rt pa pn = true) (h1 : pa ≤ qa) (h2 : qa < pa + pw pn) : pa / pw pn = qa / pw pn := by
  have hpos : 0 < pw pn := by have := pw_pos pn; omega
  have h3 := rt_mul hp
  have e : qa = (qa - pa) + pa / pw pn * pw pn := by omega
  have e2 := Int.add_mul_ediv_right (qa - pa) (pa / pw pn) (show pw pn ≠ 0 by omega)
  have z : (qa - pa) / pw pn = 0 := Int.ediv_eq_zero_of_lt (by omega) (by omega)
  rw [← e, z] at e2
  omega
theorem in_iff_span {qa qn pa pn : Int} (hq : rt qa qn = true) (hp : rt pa pn = true) : inB qa qn pa pn = true ↔ pn ≤ qn ∧ pa ≤ qa ∧ qa < pa + pw pn := by
  rw [inB_iff _ _ _ _ hq hp]
  constructor
  · intro h; exact ⟨h.1, in_span hp h.2⟩
  · intro h; exact ⟨h.1, div_of_span hp h.2.1 h.2.2⟩
/-- a shorter prefix whose first address is in a longer one's span begins where that begins. -/
theorem mul_in_span {a b x k : Int} (_hk : 1 ≤ k) (hb : 1 ≤ b) (ha : a % (k * b) = 0) (hx : x % b = 0) (h1 : x ≤ a) (h2 : a < x + b) : a = x := by
  have hab : a % b = 0 := by
    have e := Int.mul_ediv_add_emod a (k * b)
    rw [ha] at e
    have : a = (a / (k * b) * k) * b := by rw [Int.mul_assoc, Int.mul_comm]; omega
    rw [this]; exact Int.mul_emod_left _ _
  have e1 := Int.mul_ediv_add_emod a b
  have e2 := Int.mul_ediv_add_emod x b
  rw [hab] at e1
  rw [hx] at e2
  have hq : a / b = x / b := by
    have hd : b * (a / b) < b * (x / b) + b := by omega
    have hd2 : b * (x / b) ≤ b * (a / b) := by omega
    have h3 : x / b ≤ a / b := Int.le_of_mul_le_mul_left hd2 (by omega)
    have h4 : a / b < x / b + 1 := by
      have : b * (a / b) < b * (x / b + 1) := by rw [Int.mul_add]; omega
      exact Int.lt_of_mul_lt_mul_left this (by omega)
    omega
  rw [hq] at e1
  omega

theorem less_self {pa pn : Int} (hp : rt pa pn = true) : lessB pa pn pa pn = false := by
  rw [Bool.eq_false_iff]; intro h
  rw [lessB_iff _ _ _ _ hp hp] at h
  omega
theorem in_self {pa pn : Int} (hp : rt pa pn = true) : inB pa pn pa pn = true := by
  rw [inB_iff _ _ _ _ hp hp]; exact ⟨Int.le_refl _, rfl⟩

theorem less_one {pa pn qa qn : Int} (hp : rt pa pn = true) (hq : rt qa qn = true) (hne : ¬ (pa = qa ∧ pn = qn)) : (lessB pa pn qa qn = true ∧ lessB qa qn pa pn = false) ∨ (lessB pa pn qa qn = false ∧ lessB qa qn pa pn = true) := by
  have h1 := lessB_iff _ _ _ _ hp hq
  have h2 := lessB_iff _ _ _ _ hq hp
  by_cases h : pa < qa ∨ (pa = qa ∧ pn < qn)
  · left; exact ⟨h1.2 h, by rw [Bool.eq_false_iff]; intro h'; have := h2.1 h'; omega⟩
  · right; exact ⟨by rw [Bool.eq_false_iff]; intro h'; exact h (h1.1 h'), h2.2 (by omega)⟩
theorem in_less {pa pn qa qn : Int} (hp : rt pa pn = true) (hq : rt qa qn = true) (hne : ¬ (pa = qa ∧ pn = qn)) (h : inB pa pn qa qn = true) : lessB qa qn pa pn = true := by
  obtain ⟨h1, h2, -⟩ := (in_iff_span hp hq).1 h
  rw [lessB_iff _ _ _ _ hq hp]
  omega
theorem less_trans {pa pn qa qn sa sn : Int} (hp : rt pa pn = true) (hq : rt qa qn = true) (hs : rt sa sn = true) (h1 : lessB pa pn qa qn = true) (h2 : lessB qa qn sa sn = true) : lessB pa pn sa sn = true := by
  rw [lessB_iff _ _ _ _ hp hq] at h1
  rw [lessB_iff _ _ _ _ hq hs] at h2
  rw [lessB_iff _ _ _ _ hp hs]
  omega
theorem in_trans {pa pn qa qn sa sn : Int} (hp : rt pa pn = true) (hq : rt qa qn = true) (hs : rt sa sn = true) (h1 : inB pa pn qa qn = true) (h2 : inB qa qn sa sn = true) : inB pa pn sa sn = true := by
  obtain ⟨a1, a2, a3⟩ := (in_iff_span hp hq).1 h1
  obtain ⟨b1, b2, b3⟩ := (in_iff_span hq hs).1 h2
  obtain ⟨-, ⟨q0, q1⟩, hqm⟩ := (rt_iff qa qn).1 hq
  obtain ⟨-, ⟨s0, s1⟩, hsm⟩ := (rt_iff sa sn).1 hs
  rw [in_iff_span hp hs]
  refine ⟨by omega, by omega, ?_⟩
  -- q's span ends no later than s's
  obtain ⟨k, hk, hkk⟩ := pw_dvd sn qn b1 q1
  have hpos := pw_pos qn
  have : qa + pw qn ≤ sa + pw sn := by
    rcases Int.lt_or_le (sa + pw sn) (qa + pw qn) with hlt | hle
    · exfalso
      -- then s's end lies inside q's span, and is a multiple of q's size
      have hend : (sa + pw sn) % (1 * pw qn) = 0 := by
        rw [Int.one_mul]
        have e := Int.mul_ediv_add_emod sa (pw sn)
        rw [hsm] at e
        have : sa + pw sn = ((sa / pw sn + 1) * k) * pw qn := by
          rw [Int.mul_assoc, ← hkk, Int.add_mul, Int.mul_comm (sa / pw sn)]; omega
        rw [this]; exact Int.mul_emod_left _ _
      have := mul_in_span (a := sa + pw sn) (b := pw qn) (x := qa) (k := 1) (by omega) hpos hend hqm (by omega) (by omega)
      omega
    · exact hle
  omega
/-- between one and what is in it stands nothing apart from it. -/
theorem between {pa pn qa qn sa sn : Int} (hp : rt pa pn = true) (hq : rt qa qn = true) (hs : rt sa sn = true) (h1 : lessB pa pn qa qn = true) (h2 : lessB qa qn sa sn = true) (h3 : inB sa sn pa pn = true) : inB qa qn pa pn = true := by
  obtain ⟨a1, a2, a3⟩ := (in_iff_span hs hp).1 h3
  rw [lessB_iff _ _ _ _ hp hq] at h1
  rw [lessB_iff _ _ _ _ hq hs] at h2
  obtain ⟨-, ⟨q0, q1⟩, hqm⟩ := (rt_iff qa qn).1 hq
  obtain ⟨-, ⟨p0, p1⟩, hpm⟩ := (rt_iff pa pn).1 hp
  rw [in_iff_span hq hp]
  refine ⟨?_, by omega, by omega⟩
  rcases Int.lt_or_le qn pn with hlt | hle
  · exfalso
    obtain ⟨k, hk, hkk⟩ := pw_dvd qn pn (by omega) p1
    rw [hkk] at hqm
    have := mul_in_span hk (pw_pos pn) hqm hpm (by omega) (by omega)
    omega
  · exact hle
end Go.Proofs.YtnifhaopjhgmnaaGreatDoor

namespace Go.Proofs.YtnifhaopjhgmnaaGreatDoor
open Go

theorem hasB_iff {p n a : Int} (h : rt p n = true) (hA : isA a = true) : hasB p n a = true ↔ p ≤ a ∧ a < p + pw n := by
  simp only [hasB, h, hA, Bool.true_and, beq_iff_eq]
  constructor
  · intro e; exact in_span h e
  · intro e; exact div_of_span h e.1 e.2
theorem hasB_not {p n a : Int} (hA : isA a = false) : hasB p n a = false := by simp [hasB, hA]
theorem hasB_isA {p n a : Int} (h : hasB p n a = true) : isA a = true := by
  cases hA : isA a with
  | true => rfl
  | false => rw [hasB_not hA] at h; cases h

section
variable {a n : Int}
theorem rt_x (h : rt a n = true) (hn : n < 32) : rt a (n + 1) = true := by
  obtain ⟨h1, h2, h3⟩ := (rt_iff a n).1 h
  refine (rt_iff _ _).2 ⟨h1, by omega, ?_⟩
  have hs := pw_step n hn
  have hp := pw_pos (n + 1)
  have e := rt_mul h
  rw [hs] at e
  have : a = (a / (2 * pw (n + 1)) * 2) * pw (n + 1) := by rw [Int.mul_assoc]; exact e
  rw [this]; exact Int.mul_emod_left _ _
theorem top_le (h : rt a n = true) : a + pw n ≤ 4294967296 := by
  obtain ⟨⟨h1, h1'⟩, ⟨h2, h2'⟩, h3⟩ := (rt_iff a n).1 h
  obtain ⟨k, hk, hkk⟩ := pw_dvd 0 n h2 h2'
  rw [pw_0] at hkk
  have hp := pw_pos n
  have e := rt_mul h
  have hq : a / pw n < k := by
    rcases Int.lt_or_le (a / pw n) k with hlt | hle
    · exact hlt
    · have := Int.mul_le_mul_of_nonneg_right hle (show 0 ≤ pw n by omega)
      omega
  have := Int.mul_le_mul_of_nonneg_right (show a / pw n + 1 ≤ k by omega) (show 0 ≤ pw n by omega)
  rw [Int.add_mul] at this
  omega
theorem rt_y (h : rt a n = true) (hn : n < 32) : rt (a + pw (n + 1)) (n + 1) = true := by
  have hx := rt_x h hn
  obtain ⟨⟨h1, h1'⟩, ⟨h2, h2'⟩, h3⟩ := (rt_iff _ _).1 hx
  have hs := pw_step n hn
  have hp := pw_pos (n + 1)
  have ht := top_le h
  refine (rt_iff _ _).2 ⟨by omega, ⟨h2, h2'⟩, ?_⟩
  rw [Int.add_emod, h3, Int.emod_self]; rfl
theorem less_xy (h : rt a n = true) (hn : n < 32) : lessB a (n + 1) (a + pw (n + 1)) (n + 1) = true := by
  rw [lessB_iff _ _ _ _ (rt_x h hn) (rt_y h hn)]
  have := pw_pos (n + 1)
  omega
/-- An address is in just one half of a prefix that has it, and in none of one that has it not. -/
theorem has_halves (h : rt a n = true) (hn : n < 32) (b : Int) : (hasB a n b = false ∧ hasB a (n + 1) b = false ∧ hasB (a + pw (n + 1)) (n + 1) b = false) ∨
    (hasB a n b = true ∧ hasB a (n + 1) b = true ∧ hasB (a + pw (n + 1)) (n + 1) b = false) ∨ (hasB a n b = true ∧ hasB a (n + 1) b = false ∧ hasB (a + pw (n + 1)) (n + 1) b = true) := by
  cases hA : isA b with
  | false => left; exact ⟨hasB_not hA, hasB_not hA, hasB_not hA⟩
  | true =>
    have h1 := hasB_iff h hA
    have h2 := hasB_iff (rt_x h hn) hA
    have h3 := hasB_iff (rt_y h hn) hA
    have hs := pw_step n hn
    have hp := pw_pos (n + 1)
    by_cases c1 : a ≤ b ∧ b < a + pw (n + 1)
    · right; left
      exact ⟨h1.2 (by omega), h2.2 c1, by rw [Bool.eq_false_iff]; intro h; have := h3.1 h; omega⟩
    · by_cases c2 : a + pw (n + 1) ≤ b ∧ b < a + pw (n + 1) + pw (n + 1)
      · right; right
        exact ⟨h1.2 (by omega), by rw [Bool.eq_false_iff]; intro h; exact c1 (h2.1 h), h3.2 c2⟩
      · left
        exact ⟨by rw [Bool.eq_false_iff]; intro h; have := h1.1 h; omega, by rw [Bool.eq_false_iff]; intro h; exact c1 (h2.1 h), by rw [Bool.eq_false_iff]; intro h; exact c2 (h3.1 h)⟩
theorem up_x (h : rt a n = true) : a - a % pw (n + 1 - 1) = a := by
  obtain ⟨h1, h2, h3⟩ := (rt_iff a n).1 h
  rw [show n + 1 - 1 = n by omega, h3]; omega
theorem up_y (h : rt a n = true) (hn : n < 32) : (a + pw (n + 1)) - (a + pw (n + 1)) % pw (n + 1 - 1) = a := by
  obtain ⟨h1, h2, h3⟩ := (rt_iff a n).1 h
  have hs := pw_step n hn
  have hp := pw_pos (n + 1)
  rw [show n + 1 - 1 = n by omega, Int.add_emod, h3, Int.zero_add, Int.emod_emod_of_dvd _ (Int.dvd_refl _), Int.emod_eq_of_lt (by omega) (by omega)]
  omega
theorem size_half (h : rt a n = true) (hn : n < 32) : sizeI a (n + 1) + sizeI (a + pw (n + 1)) (n + 1) = sizeI a n := by
  simp only [sizeI, h, rt_x h hn, rt_y h hn, if_true]
  have := pw_step n hn
  omega
theorem rt_up (h : rt a n = true) (hn : 0 < n) : rt (a - a % pw (n - 1)) (n - 1) = true := by
  obtain ⟨⟨h1, h1'⟩, h2, h3⟩ := (rt_iff a n).1 h
  have hp := pw_pos (n - 1)
  have m0 := Int.emod_nonneg a (show pw (n - 1) ≠ 0 by omega)
  have m1 := Int.emod_lt_of_pos a (show 0 < pw (n - 1) by omega)
  have e := Int.mul_ediv_add_emod a (pw (n - 1))
  have hq : 0 ≤ pw (n - 1) * (a / pw (n - 1)) := Int.mul_nonneg (by omega) (Int.ediv_nonneg h1 (by omega))
  refine (rt_iff _ _).2 ⟨by omega, by omega, ?_⟩
  have : a - a % pw (n - 1) = a / pw (n - 1) * pw (n - 1) := by rw [Int.mul_comm]; omega
  rw [this]; exact Int.mul_emod_left _ _
theorem in_up (h : rt a n = true) (hn : 0 < n) : inB a n (a - a % pw (n - 1)) (n - 1) = true := by
  have hp := pw_pos (n - 1)
  have m0 := Int.emod_nonneg a (show pw (n - 1) ≠ 0 by omega)
  have m1 := Int.emod_lt_of_pos a (show 0 < pw (n - 1) by omega)
  rw [in_iff_span h (rt_up h hn)]
  omega
theorem cut_has (h : rt a n = true) {b : Int} (hA : isA b = true) (hb : hasB a n b = true) : b - b % pw n = a := by
  obtain ⟨h1, h2, h3⟩ := (rt_iff a n).1 h
  have hp := pw_pos n
  have hs := (hasB_iff h hA).1 hb
  have hd := div_of_span h hs.1 hs.2
  have e1 := rt_mul h
  have e2 := Int.mul_ediv_add_emod b (pw n)
  rw [← hd, Int.mul_comm] at e2
  omega
theorem cut_hasnt (h : rt a n = true) {b : Int} (hA : isA b = true) (hb : hasB a n b = false) : ¬ b - b % pw n = a := by
  intro e
  have hp := pw_pos n
  have m0 := Int.emod_nonneg b (show pw n ≠ 0 by omega)
  have m1 := Int.emod_lt_of_pos b (show 0 < pw n by omega)
  have : hasB a n b = true := (hasB_iff h hA).2 (by omega)
  rw [hb] at this; cases this
end

/-- Two prefixes with an address in common: one is in the other. -/
theorem both_in {pa pn qa qn b : Int} (hp : rt pa pn = true) (hq : rt qa qn = true) (h1 : hasB pa pn b = true) (h2 : hasB qa qn b = true) : inB pa pn qa qn = true ∨ inB qa qn pa pn = true := by
  have hA := hasB_isA h1
  have s1 := (hasB_iff hp hA).1 h1
  have s2 := (hasB_iff hq hA).1 h2
  obtain ⟨-, ⟨p0, p1⟩, hpm⟩ := (rt_iff pa pn).1 hp
  obtain ⟨-, ⟨q0, q1⟩, hqm⟩ := (rt_iff qa qn).1 hq
  -- the longer one begins in the shorter one
  have key : ∀ {x xn y yn : Int}, rt x xn = true → rt y yn = true → yn ≤ xn → x ≤ b → b < x + pw xn → y ≤ b → b < y + pw yn → inB x xn y yn = true := by
    intro x xn y yn hx hy hle x0 x1 y0 y1
    obtain ⟨-, ⟨_, x32⟩, hxm⟩ := (rt_iff x xn).1 hx
    obtain ⟨-, ⟨_, y32⟩, hym⟩ := (rt_iff y yn).1 hy
    rw [in_iff_span hx hy]
    obtain ⟨k, hk, hkk⟩ := pw_dvd yn xn hle x32
    have hpx := pw_pos xn
    refine ⟨hle, ?_, ?_⟩
    · rcases Int.lt_or_le x y with hlt | hge
      · exfalso
        have hym' : y % (k * pw xn) = 0 := by rw [← hkk]; exact hym
        have := mul_in_span hk hpx hym' hxm (by omega) (by omega)
        omega
      · exact hge
    · rcases Int.lt_or_le x (y + pw yn) with hlt | hge
      · exact hlt
      · omega
  rcases Int.lt_or_le pn qn with hlt | hle
  · right; exact key hq hp (by omega) s2.1 s2.2 s1.1 s1.2
  · left; exact key hp hq hle s1.1 s1.2 s2.1 s2.2
theorem in_both {pa pn qa qn : Int} (hp : rt pa pn = true) (hq : rt qa qn = true) (h1 : inB pa pn qa qn = true) (h2 : inB qa qn pa pn = true) : pa = qa ∧ pn = qn := by
  have a1 := (in_iff_span hp hq).1 h1
  have a2 := (in_iff_span hq hp).1 h2
  omega
end Go.Proofs.YtnifhaopjhgmnaaGreatDoor

namespace Go.Proofs.YtnifhaopjhgmnaaGreatDoor
open Go.RowKit

theorem rIsAddr_any (a : Int) (w : World) :
    Calls Tryz.prog 45 #[.int .i64 a] w fun e w' => e = .returned (.bool (isA a)) ∧ w' = w := by
  by_cases h0 : 0 ≤ a
  · by_cases h1 : a < 4294967296
    · rw [show isA a = true from (isA_iff a).2 ⟨h0, h1⟩]
      go_enter Tryz.func45, Tryz.ntmps45
      go_wp2
      go_ret
      exact ⟨rfl, rfl⟩
    · rw [show isA a = false from decide_eq_false (by omega)]
      have hd : decide (a < 4294967296) = false := decide_eq_false h1
      go_enter Tryz.func45, Tryz.ntmps45
      go_wp2
      go_ret
      exact ⟨rfl, rfl⟩
  · rw [show isA a = false from decide_eq_false (by omega)]
    have hd : decide (0 ≤ a) = false := decide_eq_false h0
    go_enter Tryz.func45, Tryz.ntmps45
    go_wp2
    go_ret
    exact ⟨rfl, rfl⟩

theorem pw_split (n i : Int) (h0 : n ≤ i) (h1 : i ≤ 32) : pw n = 2 ^ (i - n).toNat * pw i := by
  unfold pw
  rw [← Int.pow_add]
  congr 1
  omega
set_option maxHeartbeats 1000000 in
/-- At a length from 0 to 32. -/
theorem rSizeOf_any (n : Int) (h0 : 0 ≤ n) (h1 : n ≤ 32) (w : World) :
    Calls Tryz.prog 46 #[.int .i64 n] w fun e w' => e = .returned (.int .i64 (pw n)) ∧ w' = w := by
  go_enter Tryz.func46, Tryz.ntmps46
  go_wp2
  go_loop [3, 4] (fun s i => ∃ k v : Int, n ≤ k ∧ k ≤ 32 ∧ i = .int .i64 k ∧ s = .int .i64 v ∧ v * pw k = pw n ∧ 1 ≤ v) (fun _ i => (32 - intOf i).toNat)
  case atStart => exact ⟨n, 1, by omega, h1, rfl, rfl, by omega, by omega⟩
  case round =>
    obtain ⟨k, v, hk0, hk1, rfl, rfl, hv, hv1⟩ := hrel
    have HV : Hid (v * pw k = pw n) := hv
    clear hv
    by_cases hlt : k < 32
    · have hs := pw_step k hlt
      have hb : v ≤ 4294967296 := by
        have h2 := pw_pos k
        have h3 := pw_le n h0
        have h4 := HV.out
        have h5 : v * 1 ≤ v * pw k := Int.mul_le_mul_of_nonneg_left (by omega) (by omega)
        omega
      have HS : Hid (pw k = 2 * pw (k + 1)) := hs
      clear hs
      go_wp2
      go_round
      case rel =>
        refine ⟨k + 1, 2 * v, by omega, by omega, by go_num, by go_num, ?_, by omega⟩
        rw [← HV.out, HS.out]
        rw [Int.mul_comm 2 v, Int.mul_assoc]
      case measure => simp [intOf]; omega
    · obtain rfl : k = 32 := by omega
      go_wp2
      go_ret
      have : pw n = v := by rw [← HV.out, pw_32, Int.mul_one]
      rw [this]
      exact ⟨rfl, rfl⟩
end Go.Proofs.YtnifhaopjhgmnaaGreatDoor

namespace Go.Proofs.YtnifhaopjhgmnaaGreatDoor
open Go.RowKit

theorem rSizeOf_at (n s : Int) (hs : Hid (pw n = s)) (hL : isL n = true) (w : World) :
    Calls Tryz.prog 46 #[.int .i64 n] w fun e w' => e = .returned (.int .i64 s) ∧ w' = w := by
  rw [← hs.out]
  exact rSizeOf_any n ((isL_iff n).1 hL).1 ((isL_iff n).1 hL).2 w

set_option linter.unusedSimpArgs false in
set_option maxHeartbeats 2000000 in
theorem rPrefixError_any (a n : Int) (w : World) :
    Calls Tryz.prog 22 #[.agg #[.int .i64 a, .int .i64 n]] w fun e w' => e = .returned (.int .i64 (chkC a n)) ∧ Below w.heap.size w w' := by
  cases hA : isA a with
  | false =>
    have hc : chkC a n = 2 := by unfold chkC; rw [hA]; simp
    rw [hc]; clear hc
    go_enter Tryz.func22, Tryz.ntmps22
    go_wp2_with (go_at_call 45; refine (rIsAddr_any _ _).mono ?_; rintro e w0 ⟨rfl, hw0⟩; subst hw0)
    go_ret
    exact ⟨rfl, below_alloc _ _⟩
  | true =>
    cases hL : isL n with
    | false =>
      have hc : chkC a n = 2 := by unfold chkC; rw [hA, hL]; simp
      rw [hc]; clear hc
      have hd : n < 0 ∨ (0 ≤ n ∧ 32 < n) := by
        have := of_decide_eq_false hL
        omega
      rcases hd with hd | ⟨hd, hd2⟩
      all_goals
        go_enter Tryz.func22, Tryz.ntmps22
        go_wp2_with (go_at_call 45; refine (rIsAddr_any _ _).mono ?_; rintro e w0 ⟨rfl, hw0⟩; subst hw0)
        go_ret
        exact ⟨rfl, below_alloc _ _⟩
    | true =>
      obtain ⟨n0, n1⟩ := (isL_iff n).1 hL
      obtain ⟨a0, a1⟩ := (isA_iff a).1 hA
      have hp := pw_pos n
      have hle := pw_le n n0
      obtain ⟨s, hs⟩ : ∃ s, Hid (pw n = s) := ⟨_, show _ = _ from rfl⟩
      rw [show pw n = s from hs.out] at hp hle
      have hc : chkC a n = if a % s = 0 then 0 else 3 := by unfold chkC; rw [hA, hL, show pw n = s from hs.out]; simp
      obtain ⟨c0, c1⟩ := box_at w (.int .i64 a) (.int .i64 n) 24
      have hne : ¬ s = 0 := by omega
      have hnb : (s == 0) = false := by rw [beq_eq_false_iff_ne]; omega
      have d0 : decide (n < 0) = false := decide_eq_false (by omega)
      have d1 : decide (32 < n) = false := decide_eq_false (by omega)
      obtain ⟨r, hr⟩ : ∃ r, Hid (a % s = r) := ⟨_, show _ = _ from rfl⟩
      rw [hc, show a % s = r from hr.out]; clear hc
      have ht : a.tmod s = r := by rw [Int.tmod_eq_emod_of_nonneg a0]; exact hr.out
      have hb0 : Below w.heap.size w (w.alloc (.cells #[.int .i64 a, .int .i64 n] 24)) := below_alloc _ _
      have hrr : (r = 0 ∧ (r != 0) = false) ∨ (¬ r = 0 ∧ (r != 0) = true) := by
        by_cases h : r = 0
        · exact Or.inl ⟨h, by rw [h]; rfl⟩
        · exact Or.inr ⟨h, by simpa using h⟩
      rcases hrr with ⟨h0, h1⟩ | ⟨h0, h1⟩
      · rw [if_pos h0]; clear h0
        go_enter Tryz.func22, Tryz.ntmps22
        go_wp2_with (go_at_call 45; refine (rIsAddr_any _ _).mono ?_; rintro e w0 ⟨rfl, hw0⟩; subst hw0)
        go_region_held3 (fun w' => w'.cell? ⟨w.heap.size, 0, none⟩ = some (.int .i64 a) ∧ w'.cell? ⟨w.heap.size, 1, none⟩ = some (.int .i64 n) ∧ Below w.heap.size w w') (first | exact hHeld | exact ⟨c0, c1, hb0.drew⟩)
          (first | (go_at_call 46; refine (rSizeOf_at _ _ hs hL _).mono ?_; rintro e w0 ⟨rfl, hw0⟩; subst hw0))
        go_wp2
        go_ret
        exact ⟨rfl, hb0.drew⟩
      · rw [if_neg h0]; clear h0
        go_enter Tryz.func22, Tryz.ntmps22
        go_wp2_with (go_at_call 45; refine (rIsAddr_any _ _).mono ?_; rintro e w0 ⟨rfl, hw0⟩; subst hw0)
        go_region_held3 (fun w' => w'.cell? ⟨w.heap.size, 0, none⟩ = some (.int .i64 a) ∧ w'.cell? ⟨w.heap.size, 1, none⟩ = some (.int .i64 n) ∧ Below w.heap.size w w') (first | exact hHeld | exact ⟨c0, c1, hb0.drew⟩)
          (first | (go_at_call 46; refine (rSizeOf_at _ _ hs hL _).mono ?_; rintro e w0 ⟨rfl, hw0⟩; subst hw0))
        go_wp2
        go_ret
        exact ⟨rfl, hb0.drew⟩

end Go.Proofs.YtnifhaopjhgmnaaGreatDoor

namespace Go.Proofs.YtnifhaopjhgmnaaGreatDoor
open Go.RowKit

theorem rPrefixError_at (a n c : Int) (hc : Hid ((chkC a n : Int) = c)) (w : World) :
    Calls Tryz.prog 22 #[.agg #[.int .i64 a, .int .i64 n]] w fun e w' => e = .returned (.int .i64 c) ∧ Below w.heap.size w w' := by
  rw [← hc.out]
  exact rPrefixError_any a n w
theorem chkC_rt' {a n : Int} (h : rt a n = true) : Hid ((chkC a n : Int) = 0) := by
  show (chkC a n : Int) = 0
  rw [chkC_rt a n h]; rfl
theorem chkC_bad {a n : Int} (h : rt a n = false) : ∃ c : Int, Hid ((chkC a n : Int) = c) ∧ 0 < c := by
  refine ⟨_, show _ = _ from rfl, ?_⟩
  unfold chkC
  split
  · rename_i h1
    split
    · rename_i h2
      have := (rt_iff a n).2 ⟨(isA_iff a).1 h1.1, (isL_iff n).1 h1.2, h2⟩
      rw [h] at this; cases this
    · decide
  · decide
theorem pw_lt {m n : Int} (h : m < n) (h0 : n ≤ 32) : pw n < pw m := by
  obtain ⟨k, hk, e⟩ := pw_dvd (m + 1) n (by omega) h0
  have hs := pw_step m (by omega)
  have hp := pw_pos n
  have : 1 * pw n ≤ k * pw n := Int.mul_le_mul_of_nonneg_right hk (by omega)
  omega
/-- in: its first address is not ahead, its end not behind. -/
theorem in_iff_ends {qa qn pa pn : Int} (hq : rt qa qn = true) (hp : rt pa pn = true) : inB qa qn pa pn = true ↔ pa ≤ qa ∧ qa + pw qn ≤ pa + pw pn := by
  rw [in_iff_span hq hp]
  obtain ⟨-, ⟨q0, q1⟩, q2⟩ := (rt_iff qa qn).1 hq
  obtain ⟨-, ⟨p0, p1⟩, p2⟩ := (rt_iff pa pn).1 hp
  have sq := pw_pos qn
  constructor
  · rintro ⟨h1, h2, h3⟩
    refine ⟨h2, ?_⟩
    obtain ⟨k, hk, e⟩ := pw_dvd pn qn h1 q1
    have e1 := Int.mul_ediv_add_emod qa (pw qn)
    have e2 := Int.mul_ediv_add_emod pa (pw pn)
    rw [q2] at e1
    rw [p2] at e2
    have e3 : pa + pw pn = pw qn * (k * (pa / pw pn) + k) := by
      rw [Int.mul_add, ← Int.mul_assoc, Int.mul_comm (pw qn) k, ← e]; omega
    have h4 : pw qn * (qa / pw qn) < pw qn * (k * (pa / pw pn) + k) := by rw [← e3]; omega
    have h5 := Int.lt_of_mul_lt_mul_left h4 (by omega)
    have h6 : pw qn * (qa / pw qn + 1) ≤ pw qn * (k * (pa / pw pn) + k) := Int.mul_le_mul_of_nonneg_left (by omega) (by omega)
    rw [Int.mul_add, Int.mul_one] at h6
    rw [e3]
    omega
  · rintro ⟨h1, h2⟩
    refine ⟨?_, h1, by omega⟩
    by_cases h : pn ≤ qn
    · exact h
    · have := pw_lt (m := qn) (n := pn) (by omega) p1
      omega
/-- Two prefixes in boxes of the call's own. -/
structure Two (w w' : World) (qa qn pa pn : Int) : Prop where
  q0 : w'.cell? ⟨w.heap.size, 0, none⟩ = some (.int .i64 qa)
  q1 : w'.cell? ⟨w.heap.size, 1, none⟩ = some (.int .i64 qn)
  p0 : w'.cell? ⟨w.heap.size + 1, 0, none⟩ = some (.int .i64 pa)
  p1 : w'.cell? ⟨w.heap.size + 1, 1, none⟩ = some (.int .i64 pn)
  hb : Below w.heap.size w w'
theorem Two.below {w w1 w2 : World} {qa qn pa pn : Int} (h : Two w w1 qa qn pa pn) (hb : Below w1.heap.size w1 w2) : Two w w2 qa qn pa pn :=
  ⟨cell_kept hb h.q0, cell_kept hb h.q1, cell_kept hb h.p0, cell_kept hb h.p1, h.hb.trans (hb.mono h.hb.size)⟩
theorem two_mk (w : World) (qa qn pa pn : Int) : Two w ((w.alloc (.cells #[.int .i64 qa, .int .i64 qn] 24)).alloc (.cells #[.int .i64 pa, .int .i64 pn] 24)) qa qn pa pn := by
  have hb : Below w.heap.size w ((w.alloc (.cells #[.int .i64 qa, .int .i64 qn] 24)).alloc (.cells #[.int .i64 pa, .int .i64 pn] 24)) := ((Below.refl _ _).alloc (Nat.le_refl _) _).alloc (by simp) _
  obtain ⟨a0, a1⟩ := box_at w (.int .i64 qa) (.int .i64 qn) 24
  obtain ⟨b0, b1⟩ := box_at2 w (.cells #[.int .i64 qa, .int .i64 qn] 24) (.int .i64 pa) (.int .i64 pn) 24
  exact ⟨cell_kept (below_alloc _ _) a0, cell_kept (below_alloc _ _) a1, b0, b1, hb⟩

set_option linter.unusedSimpArgs false in
set_option linter.unusedVariables false in
set_option maxRecDepth 100000 in
set_option maxHeartbeats 4000000 in
theorem rIsIn_any (qa qn pa pn : Int) (w : World) :
    Calls Tryz.prog 24 #[.agg #[.int .i64 qa, .int .i64 qn], .agg #[.int .i64 pa, .int .i64 pn]] w fun e w' => e = .returned (.bool (inB qa qn pa pn)) ∧ Below w.heap.size w w' := by
  have B0 := two_mk w qa qn pa pn
  obtain ⟨q0, q1, p0, p1, -⟩ := id B0
  cases hrq : rt qa qn with
  | false =>
    rw [show inB qa qn pa pn = false by simp [inB, hrq]]
    obtain ⟨c, hq, hd⟩ := chkC_bad hrq
    go_enter Tryz.func24, Tryz.ntmps24
    go_wp2_with fail
    refine (rPrefixError_at _ _ _ hq _).mono ?_
    rintro e w1 ⟨rfl, hb1⟩
    have B1 := B0.below hb1
    clear hb1
    obtain ⟨q0, q1, p0, p1, -⟩ := id B1
    go_wp2_with fail
    go_ret
    exact ⟨rfl, B1.hb⟩
  | true =>
    have hq := chkC_rt' hrq
    cases hrp : rt pa pn with
    | false =>
        rw [show inB qa qn pa pn = false by simp [inB, hrp]]
        obtain ⟨c, hp, hd⟩ := chkC_bad hrp
        go_enter Tryz.func24, Tryz.ntmps24
        go_wp2_with fail
        refine (rPrefixError_at _ _ _ hq _).mono ?_
        rintro e w1 ⟨rfl, hb1⟩
        have B1 := B0.below hb1
        clear hb1
        obtain ⟨q0, q1, p0, p1, -⟩ := id B1
        go_wp2_with fail
        refine (rPrefixError_at _ _ _ hp _).mono ?_
        rintro e w2 ⟨rfl, hb1⟩
        have B2 := B1.below hb1
        clear hb1
        obtain ⟨q0, q1, p0, p1, -⟩ := id B2
        go_wp2_with fail
        go_ret
        exact ⟨rfl, B2.hb⟩
    | true =>
      have hp := chkC_rt' hrp
      have hLq := rt_isL hrq
      have hLp := rt_isL hrp
      have hiff := in_iff_ends hrq hrp
      obtain ⟨hq0, hq1, -⟩ := (rt_iff qa qn).1 hrq
      obtain ⟨hp0, hp1, -⟩ := (rt_iff pa pn).1 hrp
      have h1 := pw_pos qn
      have h2 := pw_le qn hq1.1
      have h3 := pw_pos pn
      have h4 := pw_le pn hp1.1
      obtain ⟨s, hs⟩ : ∃ s, Hid (pw qn = s) := ⟨_, show _ = _ from rfl⟩
      obtain ⟨t, ht⟩ : ∃ s, Hid (pw pn = s) := ⟨_, show _ = _ from rfl⟩
      rw [show pw qn = s from hs.out] at h1 h2 hiff
      rw [show pw pn = t from ht.out] at h3 h4 hiff
      have hw1 : IntKind.i64.wrap (qa + s) = qa + s := wrapi _ (by omega)
      have hw2 : IntKind.i64.wrap (pa + t) = pa + t := wrapi _ (by omega)
      by_cases hge : pa ≤ qa
      · have hv : inB qa qn pa pn = decide (qa + s ≤ pa + t) := by
          cases hh : inB qa qn pa pn with
          | true => exact (decide_eq_true (hiff.1 hh).2).symm
          | false => exact (decide_eq_false (fun h => by rw [hiff.2 ⟨hge, h⟩] at hh; cases hh)).symm
        rw [hv]; clear hv hiff
        go_enter Tryz.func24, Tryz.ntmps24
        go_wp2_with fail
        refine (rPrefixError_at _ _ _ hq _).mono ?_
        rintro e w1 ⟨rfl, hb1⟩
        have B1 := B0.below hb1
        clear hb1
        obtain ⟨q0, q1, p0, p1, -⟩ := id B1
        go_wp2_with fail
        refine (rPrefixError_at _ _ _ hp _).mono ?_
        rintro e w2 ⟨rfl, hb1⟩
        have B2 := B1.below hb1
        clear hb1
        obtain ⟨q0, q1, p0, p1, -⟩ := id B2
        go_wp2_with fail
        refine wp_region_noPanic ?_
        refine wp_region_held_drew (S := (fun w' => w'.cell? ⟨w.heap.size, 0, none⟩ = some (.int .i64 qa) ∧ w'.cell? ⟨w.heap.size, 1, none⟩ = some (.int .i64 qn) ∧ w'.cell? ⟨w.heap.size + 1, 0, none⟩ = some (.int .i64 pa) ∧ w'.cell? ⟨w.heap.size + 1, 1, none⟩ = some (.int .i64 pn) ∧ Below w.heap.size w w')) (by kernel_rfl) ?_ (fun hHeld => ?_)
        · exact ⟨q0, q1, p0, p1, B2.hb.drew⟩
        refine wpAnyH_take (i := 0) (v := ?_) rfl (by kernel_rfl) (by kernel_rfl) (by kernel_rfl) (fun _ _ _ h => h) (Or.inl ⟨by rfl, ?_⟩) (by assumption) ?_
        rotate_left
        · (intro w hSw; (try dsimp only at hSw); go_simp; try (with_reducible rfl))
        try simp only [Act.put, List.setIfInBounds_toArray, List.set_cons_zero, List.set_cons_succ, List.getElem_toArray, List.getElem_cons_zero, List.getElem_cons_succ]
        refine wpAnyH_take (i := 1) (v := ?_) rfl (by kernel_rfl) (by kernel_rfl) (by kernel_rfl) (fun _ _ _ h => h) (Or.inl ⟨by rfl, ?_⟩) (by assumption) ?_
        rotate_left
        · (intro w hSw; (try dsimp only at hSw); go_simp; try (with_reducible rfl))
        try simp only [Act.put, List.setIfInBounds_toArray, List.set_cons_zero, List.set_cons_succ, List.getElem_toArray, List.getElem_cons_zero, List.getElem_cons_succ]
        refine wpAnyH_take (i := 2) (v := ?_) rfl (by kernel_rfl) (by kernel_rfl) (by kernel_rfl) (fun _ _ _ h => h) (Or.inl ⟨by rfl, ?_⟩) (by assumption) ?_
        rotate_left
        · (intro w hSw; (try dsimp only at hSw); go_simp; try (with_reducible rfl))
        try simp only [Act.put, List.setIfInBounds_toArray, List.set_cons_zero, List.set_cons_succ, List.getElem_toArray, List.getElem_cons_zero, List.getElem_cons_succ]
        refine wpAnyH_take (i := 3) (v := ?_) rfl (by kernel_rfl) (by kernel_rfl) (by kernel_rfl) (fun _ _ _ h => h) (Or.inl ⟨by rfl, ?_⟩) (by assumption) ?_
        rotate_left
        · (intro w hSw; (try dsimp only at hSw); go_simp; try (with_reducible rfl))
        try simp only [Act.put, List.setIfInBounds_toArray, List.set_cons_zero, List.set_cons_succ, List.getElem_toArray, List.getElem_cons_zero, List.getElem_cons_succ]
        refine wpAnyH_take (i := 4) (v := ?_) rfl (by kernel_rfl) (by kernel_rfl) (by kernel_rfl) (fun _ _ _ h => h) (Or.inl ⟨by rfl, ?_⟩) (by assumption) ?_
        rotate_left
        · (intro w hSw; (try dsimp only at hSw); go_simp; try (with_reducible rfl))
        try simp only [Act.put, List.setIfInBounds_toArray, List.set_cons_zero, List.set_cons_succ, List.getElem_toArray, List.getElem_cons_zero, List.getElem_cons_succ]
        refine wpAnyH_take (i := 5) (v := ?_) rfl (by kernel_rfl) (by kernel_rfl) (by kernel_rfl) (fun _ _ _ h => h) (Or.inl ⟨by rfl, ?_⟩) (by assumption) ?_
        rotate_left
        · (intro w hSw; (try dsimp only at hSw); go_simp; try (with_reducible rfl))
        try simp only [Act.put, List.setIfInBounds_toArray, List.set_cons_zero, List.set_cons_succ, List.getElem_toArray, List.getElem_cons_zero, List.getElem_cons_succ]
        refine wpAnyH_take (i := 6) (v := ?_) rfl (by kernel_rfl) (by kernel_rfl) (by kernel_rfl) (fun _ _ _ h => h) (Or.inl ⟨by rfl, ?_⟩) (by assumption) ?_
        rotate_left
        · (intro w hSw; (try dsimp only at hSw); go_simp; try (with_reducible rfl))
        try simp only [Act.put, List.setIfInBounds_toArray, List.set_cons_zero, List.set_cons_succ, List.getElem_toArray, List.getElem_cons_zero, List.getElem_cons_succ]
        refine wpAnyH_take (i := 7) (v := ?_) rfl (by kernel_rfl) (by kernel_rfl) (by kernel_rfl) (fun _ _ _ h => h) (Or.inl ⟨by rfl, ?_⟩) (by assumption) ?_
        rotate_left
        · (intro w hSw; (try dsimp only at hSw); go_simp; try (with_reducible rfl))
        try simp only [Act.put, List.setIfInBounds_toArray, List.set_cons_zero, List.set_cons_succ, List.getElem_toArray, List.getElem_cons_zero, List.getElem_cons_succ]
        refine wpAnyH_take (i := 8) (v := ?_) rfl (by kernel_rfl) (by kernel_rfl) (by kernel_rfl) (fun _ _ _ h => h) (Or.inl ⟨by rfl, ?_⟩) (by assumption) ?_
        rotate_left
        · (intro w hSw; (try dsimp only at hSw); go_simp; try (with_reducible rfl))
        try simp only [Act.put, List.setIfInBounds_toArray, List.set_cons_zero, List.set_cons_succ, List.getElem_toArray, List.getElem_cons_zero, List.getElem_cons_succ]
        refine wpAnyH_take (i := 9) (v := ?_) rfl (by kernel_rfl) (by kernel_rfl) (by kernel_rfl) (fun _ _ _ h => h) (Or.inl ⟨by rfl, ?_⟩) (by assumption) ?_
        rotate_left
        · (intro w hSw; (try dsimp only at hSw); go_simp; try (with_reducible rfl))
        try simp only [Act.put, List.setIfInBounds_toArray, List.set_cons_zero, List.set_cons_succ, List.getElem_toArray, List.getElem_cons_zero, List.getElem_cons_succ]
        refine wpAnyH_take (i := 12) (v := ?_) rfl (by kernel_rfl) (by kernel_rfl) (by kernel_rfl) (fun _ _ _ h => h) (Or.inl ⟨by rfl, ?_⟩) (by assumption) ?_
        rotate_left
        · (intro w hSw; (try dsimp only at hSw); go_simp; try (with_reducible rfl))
        try simp only [Act.put, List.setIfInBounds_toArray, List.set_cons_zero, List.set_cons_succ, List.getElem_toArray, List.getElem_cons_zero, List.getElem_cons_succ]
        refine wpAnyH_take (i := 13) (v := ?_) rfl (by kernel_rfl) (by kernel_rfl) (by kernel_rfl) (fun _ _ _ h => h) (Or.inl ⟨by rfl, ?_⟩) (by assumption) ?_
        rotate_left
        · (intro w hSw; (try dsimp only at hSw); go_simp; try (with_reducible rfl))
        try simp only [Act.put, List.setIfInBounds_toArray, List.set_cons_zero, List.set_cons_succ, List.getElem_toArray, List.getElem_cons_zero, List.getElem_cons_succ]
        refine wpAnyH_take (i := 14) (v := ?_) rfl (by kernel_rfl) (by kernel_rfl) (by kernel_rfl) (fun _ _ _ h => h) (Or.inl ⟨by rfl, ?_⟩) (by assumption) ?_
        rotate_left
        · (intro w hSw; (try dsimp only at hSw); go_simp; try (with_reducible rfl))
        try simp only [Act.put, List.setIfInBounds_toArray, List.set_cons_zero, List.set_cons_succ, List.getElem_toArray, List.getElem_cons_zero, List.getElem_cons_succ]
        refine wpAnyH_take (i := 15) (v := ?_) rfl (by kernel_rfl) (by kernel_rfl) (by kernel_rfl) (fun _ _ _ h => h) (Or.inl ⟨by rfl, ?_⟩) (by assumption) ?_
        rotate_left
        · (intro w hSw; (try dsimp only at hSw); go_simp; try (with_reducible rfl))
        try simp only [Act.put, List.setIfInBounds_toArray, List.set_cons_zero, List.set_cons_succ, List.getElem_toArray, List.getElem_cons_zero, List.getElem_cons_succ]
        refine wpAnyH_ready (rs := [10]) (by kernel_rfl) (by simp) ?_
        refine AllReadyH.cons rfl (fun K hK => ?_) AllReadyH.nil
        go_simp
        refine (rSizeOf_at _ _ (by assumption) (by assumption) _).mono ?_
        rintro e wn ⟨rfl, hwn⟩
        subst hwn
        refine hK.out _ _ ?_ (fun hHeld => ?_)
        · exact hHeld
        clear hK K
        try simp only [Act.put, List.setIfInBounds_toArray, List.set_cons_zero, List.set_cons_succ, List.getElem_toArray, List.getElem_cons_zero, List.getElem_cons_succ]
        refine wpAnyH_take (i := 11) (v := ?_) rfl (by kernel_rfl) (by kernel_rfl) (by kernel_rfl) (fun _ _ _ h => h) (Or.inl ⟨by rfl, ?_⟩) (by assumption) ?_
        rotate_left
        · (intro w hSw; (try dsimp only at hSw); go_simp; try (with_reducible rfl))
        try simp only [Act.put, List.setIfInBounds_toArray, List.set_cons_zero, List.set_cons_succ, List.getElem_toArray, List.getElem_cons_zero, List.getElem_cons_succ]
        refine wpAnyH_ready (rs := [16]) (by kernel_rfl) (by simp) ?_
        refine AllReadyH.cons rfl (fun K hK => ?_) AllReadyH.nil
        go_simp
        refine (rSizeOf_at _ _ (by assumption) (by assumption) _).mono ?_
        rintro e wn ⟨rfl, hwn⟩
        subst hwn
        refine hK.out _ _ ?_ (fun hHeld => ?_)
        · exact hHeld
        clear hK K
        try simp only [Act.put, List.setIfInBounds_toArray, List.set_cons_zero, List.set_cons_succ, List.getElem_toArray, List.getElem_cons_zero, List.getElem_cons_succ]
        refine wpAnyH_take (i := 17) (v := ?_) rfl (by kernel_rfl) (by kernel_rfl) (by kernel_rfl) (fun _ _ _ h => h) (Or.inl ⟨by rfl, ?_⟩) (by assumption) ?_
        rotate_left
        · (intro w hSw; (try dsimp only at hSw); go_simp; try (with_reducible rfl))
        try simp only [Act.put, List.setIfInBounds_toArray, List.set_cons_zero, List.set_cons_succ, List.getElem_toArray, List.getElem_cons_zero, List.getElem_cons_succ]
        refine wpAnyH_take (i := 18) (v := ?_) rfl (by kernel_rfl) (by kernel_rfl) (by kernel_rfl) (fun _ _ _ h => h) (Or.inl ⟨by rfl, ?_⟩) (by assumption) ?_
        rotate_left
        · (intro w hSw; (try dsimp only at hSw); go_simp; try (with_reducible rfl))
        try simp only [Act.put, List.setIfInBounds_toArray, List.set_cons_zero, List.set_cons_succ, List.getElem_toArray, List.getElem_cons_zero, List.getElem_cons_succ]
        refine wpAnyH_take (i := 19) (v := ?_) rfl (by kernel_rfl) (by kernel_rfl) (by kernel_rfl) (fun _ _ _ h => h) (Or.inl ⟨by rfl, ?_⟩) (by assumption) ?_
        rotate_left
        · (intro w hSw; (try dsimp only at hSw); go_simp; try (with_reducible rfl))
        try simp only [Act.put, List.setIfInBounds_toArray, List.set_cons_zero, List.set_cons_succ, List.getElem_toArray, List.getElem_cons_zero, List.getElem_cons_succ]
        refine wpAnyH_take (i := 20) (v := ?_) rfl (by kernel_rfl) (by kernel_rfl) (by kernel_rfl) (fun _ _ _ h => h) (Or.inl ⟨by rfl, ?_⟩) (by assumption) ?_
        rotate_left
        · (intro w hSw; (try dsimp only at hSw); go_simp; try (with_reducible rfl))
        try simp only [Act.put, List.setIfInBounds_toArray, List.set_cons_zero, List.set_cons_succ, List.getElem_toArray, List.getElem_cons_zero, List.getElem_cons_succ]
        refine wpAnyH_done (by kernel_rfl) ?_ _
        refine NoPanic.normal ?_
        go_wp2_with fail
        go_ret
        exact ⟨rfl, hHeld.2.2.2.2⟩
      · have hv : inB qa qn pa pn = false := by
          cases hh : inB qa qn pa pn with
          | true => exact absurd (hiff.1 hh).1 hge
          | false => rfl
        have hd : decide (pa ≤ qa) = false := decide_eq_false hge
        rw [hv]; clear hv hiff
        go_enter Tryz.func24, Tryz.ntmps24
        go_wp2_with fail
        refine (rPrefixError_at _ _ _ hq _).mono ?_
        rintro e w1 ⟨rfl, hb1⟩
        have B1 := B0.below hb1
        clear hb1
        obtain ⟨q0, q1, p0, p1, -⟩ := id B1
        go_wp2_with fail
        refine (rPrefixError_at _ _ _ hp _).mono ?_
        rintro e w2 ⟨rfl, hb1⟩
        have B2 := B1.below hb1
        clear hb1
        obtain ⟨q0, q1, p0, p1, -⟩ := id B2
        go_wp2_with fail
        refine wp_region_noPanic ?_
        refine wp_region_held_drew (S := (fun w' => w'.cell? ⟨w.heap.size, 0, none⟩ = some (.int .i64 qa) ∧ w'.cell? ⟨w.heap.size, 1, none⟩ = some (.int .i64 qn) ∧ w'.cell? ⟨w.heap.size + 1, 0, none⟩ = some (.int .i64 pa) ∧ w'.cell? ⟨w.heap.size + 1, 1, none⟩ = some (.int .i64 pn) ∧ Below w.heap.size w w')) (by kernel_rfl) ?_ (fun hHeld => ?_)
        · exact ⟨q0, q1, p0, p1, B2.hb.drew⟩
        refine wpAnyH_take (i := 0) (v := ?_) rfl (by kernel_rfl) (by kernel_rfl) (by kernel_rfl) (fun _ _ _ h => h) (Or.inl ⟨by rfl, ?_⟩) (by assumption) ?_
        rotate_left
        · (intro w hSw; (try dsimp only at hSw); go_simp; try (with_reducible rfl))
        try simp only [Act.put, List.setIfInBounds_toArray, List.set_cons_zero, List.set_cons_succ, List.getElem_toArray, List.getElem_cons_zero, List.getElem_cons_succ]
        refine wpAnyH_take (i := 1) (v := ?_) rfl (by kernel_rfl) (by kernel_rfl) (by kernel_rfl) (fun _ _ _ h => h) (Or.inl ⟨by rfl, ?_⟩) (by assumption) ?_
        rotate_left
        · (intro w hSw; (try dsimp only at hSw); go_simp; try (with_reducible rfl))
        try simp only [Act.put, List.setIfInBounds_toArray, List.set_cons_zero, List.set_cons_succ, List.getElem_toArray, List.getElem_cons_zero, List.getElem_cons_succ]
        refine wpAnyH_take (i := 2) (v := ?_) rfl (by kernel_rfl) (by kernel_rfl) (by kernel_rfl) (fun _ _ _ h => h) (Or.inl ⟨by rfl, ?_⟩) (by assumption) ?_
        rotate_left
        · (intro w hSw; (try dsimp only at hSw); go_simp; try (with_reducible rfl))
        try simp only [Act.put, List.setIfInBounds_toArray, List.set_cons_zero, List.set_cons_succ, List.getElem_toArray, List.getElem_cons_zero, List.getElem_cons_succ]
        refine wpAnyH_take (i := 3) (v := ?_) rfl (by kernel_rfl) (by kernel_rfl) (by kernel_rfl) (fun _ _ _ h => h) (Or.inl ⟨by rfl, ?_⟩) (by assumption) ?_
        rotate_left
        · (intro w hSw; (try dsimp only at hSw); go_simp; try (with_reducible rfl))
        try simp only [Act.put, List.setIfInBounds_toArray, List.set_cons_zero, List.set_cons_succ, List.getElem_toArray, List.getElem_cons_zero, List.getElem_cons_succ]
        refine wpAnyH_take (i := 4) (v := ?_) rfl (by kernel_rfl) (by kernel_rfl) (by kernel_rfl) (fun _ _ _ h => h) (Or.inl ⟨by rfl, ?_⟩) (by assumption) ?_
        rotate_left
        · (intro w hSw; (try dsimp only at hSw); go_simp; try (with_reducible rfl))
        try simp only [Act.put, List.setIfInBounds_toArray, List.set_cons_zero, List.set_cons_succ, List.getElem_toArray, List.getElem_cons_zero, List.getElem_cons_succ]
        refine wpAnyH_take (i := 5) (v := ?_) rfl (by kernel_rfl) (by kernel_rfl) (by kernel_rfl) (fun _ _ _ h => h) (Or.inl ⟨by rfl, ?_⟩) (by assumption) ?_
        rotate_left
        · (intro w hSw; (try dsimp only at hSw); go_simp; try (with_reducible rfl))
        try simp only [Act.put, List.setIfInBounds_toArray, List.set_cons_zero, List.set_cons_succ, List.getElem_toArray, List.getElem_cons_zero, List.getElem_cons_succ]
        refine wpAnyH_take (i := 6) (v := undef) rfl (by kernel_rfl) (by kernel_rfl) (by kernel_rfl) (fun _ _ _ h => h) (Or.inr ⟨by rfl, rfl⟩) (by assumption) ?_
        try simp only [Act.put, List.setIfInBounds_toArray, List.set_cons_zero, List.set_cons_succ, List.getElem_toArray, List.getElem_cons_zero, List.getElem_cons_succ]
        refine wpAnyH_take (i := 7) (v := undef) rfl (by kernel_rfl) (by kernel_rfl) (by kernel_rfl) (fun _ _ _ h => h) (Or.inr ⟨by rfl, rfl⟩) (by assumption) ?_
        try simp only [Act.put, List.setIfInBounds_toArray, List.set_cons_zero, List.set_cons_succ, List.getElem_toArray, List.getElem_cons_zero, List.getElem_cons_succ]
        refine wpAnyH_take (i := 8) (v := undef) rfl (by kernel_rfl) (by kernel_rfl) (by kernel_rfl) (fun _ _ _ h => h) (Or.inr ⟨by rfl, rfl⟩) (by assumption) ?_
        try simp only [Act.put, List.setIfInBounds_toArray, List.set_cons_zero, List.set_cons_succ, List.getElem_toArray, List.getElem_cons_zero, List.getElem_cons_succ]
        refine wpAnyH_take (i := 9) (v := undef) rfl (by kernel_rfl) (by kernel_rfl) (by kernel_rfl) (fun _ _ _ h => h) (Or.inr ⟨by rfl, rfl⟩) (by assumption) ?_
        try simp only [Act.put, List.setIfInBounds_toArray, List.set_cons_zero, List.set_cons_succ, List.getElem_toArray, List.getElem_cons_zero, List.getElem_cons_succ]
        refine wpAnyH_take (i := 10) (v := undef) rfl (by kernel_rfl) (by kernel_rfl) (by kernel_rfl) (fun _ _ _ h => h) (Or.inr ⟨by rfl, rfl⟩) (by assumption) ?_
        try simp only [Act.put, List.setIfInBounds_toArray, List.set_cons_zero, List.set_cons_succ, List.getElem_toArray, List.getElem_cons_zero, List.getElem_cons_succ]
        refine wpAnyH_take (i := 11) (v := undef) rfl (by kernel_rfl) (by kernel_rfl) (by kernel_rfl) (fun _ _ _ h => h) (Or.inr ⟨by rfl, rfl⟩) (by assumption) ?_
        try simp only [Act.put, List.setIfInBounds_toArray, List.set_cons_zero, List.set_cons_succ, List.getElem_toArray, List.getElem_cons_zero, List.getElem_cons_succ]
        refine wpAnyH_take (i := 12) (v := undef) rfl (by kernel_rfl) (by kernel_rfl) (by kernel_rfl) (fun _ _ _ h => h) (Or.inr ⟨by rfl, rfl⟩) (by assumption) ?_
        try simp only [Act.put, List.setIfInBounds_toArray, List.set_cons_zero, List.set_cons_succ, List.getElem_toArray, List.getElem_cons_zero, List.getElem_cons_succ]
        refine wpAnyH_take (i := 13) (v := undef) rfl (by kernel_rfl) (by kernel_rfl) (by kernel_rfl) (fun _ _ _ h => h) (Or.inr ⟨by rfl, rfl⟩) (by assumption) ?_
        try simp only [Act.put, List.setIfInBounds_toArray, List.set_cons_zero, List.set_cons_succ, List.getElem_toArray, List.getElem_cons_zero, List.getElem_cons_succ]
        refine wpAnyH_take (i := 14) (v := undef) rfl (by kernel_rfl) (by kernel_rfl) (by kernel_rfl) (fun _ _ _ h => h) (Or.inr ⟨by rfl, rfl⟩) (by assumption) ?_
        try simp only [Act.put, List.setIfInBounds_toArray, List.set_cons_zero, List.set_cons_succ, List.getElem_toArray, List.getElem_cons_zero, List.getElem_cons_succ]
        refine wpAnyH_take (i := 15) (v := undef) rfl (by kernel_rfl) (by kernel_rfl) (by kernel_rfl) (fun _ _ _ h => h) (Or.inr ⟨by rfl, rfl⟩) (by assumption) ?_
        try simp only [Act.put, List.setIfInBounds_toArray, List.set_cons_zero, List.set_cons_succ, List.getElem_toArray, List.getElem_cons_zero, List.getElem_cons_succ]
        refine wpAnyH_take (i := 16) (v := undef) rfl (by kernel_rfl) (by kernel_rfl) (by kernel_rfl) (fun _ _ _ h => h) (Or.inr ⟨by rfl, rfl⟩) (by assumption) ?_
        try simp only [Act.put, List.setIfInBounds_toArray, List.set_cons_zero, List.set_cons_succ, List.getElem_toArray, List.getElem_cons_zero, List.getElem_cons_succ]
        refine wpAnyH_take (i := 17) (v := undef) rfl (by kernel_rfl) (by kernel_rfl) (by kernel_rfl) (fun _ _ _ h => h) (Or.inr ⟨by rfl, rfl⟩) (by assumption) ?_
        try simp only [Act.put, List.setIfInBounds_toArray, List.set_cons_zero, List.set_cons_succ, List.getElem_toArray, List.getElem_cons_zero, List.getElem_cons_succ]
        refine wpAnyH_take (i := 18) (v := undef) rfl (by kernel_rfl) (by kernel_rfl) (by kernel_rfl) (fun _ _ _ h => h) (Or.inr ⟨by rfl, rfl⟩) (by assumption) ?_
        try simp only [Act.put, List.setIfInBounds_toArray, List.set_cons_zero, List.set_cons_succ, List.getElem_toArray, List.getElem_cons_zero, List.getElem_cons_succ]
        refine wpAnyH_take (i := 19) (v := ?_) rfl (by kernel_rfl) (by kernel_rfl) (by kernel_rfl) (fun _ _ _ h => h) (Or.inl ⟨by rfl, ?_⟩) (by assumption) ?_
        rotate_left
        · (intro w hSw; (try dsimp only at hSw); go_simp; try (with_reducible rfl))
        try simp only [Act.put, List.setIfInBounds_toArray, List.set_cons_zero, List.set_cons_succ, List.getElem_toArray, List.getElem_cons_zero, List.getElem_cons_succ]
        refine wpAnyH_take (i := 20) (v := ?_) rfl (by kernel_rfl) (by kernel_rfl) (by kernel_rfl) (fun _ _ _ h => h) (Or.inl ⟨by rfl, ?_⟩) (by assumption) ?_
        rotate_left
        · (intro w hSw; (try dsimp only at hSw); go_simp; try (with_reducible rfl))
        try simp only [Act.put, List.setIfInBounds_toArray, List.set_cons_zero, List.set_cons_succ, List.getElem_toArray, List.getElem_cons_zero, List.getElem_cons_succ]
        refine wpAnyH_done (by kernel_rfl) ?_ _
        refine NoPanic.normal ?_
        go_wp2_with fail
        go_ret
        exact ⟨rfl, hHeld.2.2.2.2⟩

end Go.Proofs.YtnifhaopjhgmnaaGreatDoor
