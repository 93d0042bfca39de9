/-
  A set by halves of halves: plain mathematics: what the document's way to build a set comes to is normal, and has what is wanted.
-/
import Derived.Test.YthehpnhjfnenoaaDoorSetMath2
namespace Go.Proofs.YthehpnhjfnenoaaDoor
open Go

theorem mult_in {a b x : Int} (_hb : 1 ≤ b) (ha : a % b = 0) (hx : x % b = 0) (h1 : x ≤ a) (h2 : a < x + b) : a = x := by
  have h : (a - x) % b = 0 := by rw [Int.sub_emod, ha, hx]; simp
  rw [Int.emod_eq_of_lt (by omega) (by omega)] at h
  omega
/-- two prefixes with one address: the longer one is in the other. -/
theorem nested {p q : Int × Int} (hp : rt p.1 p.2 = true) (hq : rt q.1 q.2 = true) {x : Int} (h1 : p.1 ≤ x ∧ x < p.1 + pw p.2) (h2 : q.1 ≤ x ∧ x < q.1 + pw q.2) (hle : p.2 ≤ q.2) : p.1 ≤ q.1 ∧ q.1 < p.1 + pw p.2 ∧ q.1 + pw q.2 ≤ p.1 + pw p.2 := by
  have hp' := (rt_iff _ _).1 hp
  have hq' := (rt_iff _ _).1 hq
  have hm := mod_down hle hq'.2.1.2 hp'.2.2
  have hpos := pw_pos q.2
  have hlow : p.1 ≤ q.1 := by
    rcases Int.lt_or_le q.1 p.1 with h | h
    · have := mult_in hpos hm hq'.2.2 (by omega) (by omega); omega
    · exact h
  refine ⟨hlow, by omega, ?_⟩
  rcases Int.lt_or_le (p.1 + pw p.2) (q.1 + pw q.2) with h | h
  · have he : (p.1 + pw p.2) % pw q.2 = 0 := by
      obtain ⟨k, -, hk⟩ := pw_dvd p.2 q.2 hle hq'.2.1.2
      rw [Int.add_emod, hm, hk, Int.mul_emod_left]; simp
    have := mult_in hpos he hq'.2.2 (by omega) (by omega)
    omega
  · exact h

/-- is q in p? -/
def inR (q p : Int × Int) : Bool := decide (p.2 ≤ q.2 ∧ p.1 ≤ q.1 ∧ q.1 < p.1 + pw p.2)
theorem inR_iff (q p : Int × Int) : inR q p = true ↔ p.2 ≤ q.2 ∧ p.1 ≤ q.1 ∧ q.1 < p.1 + pw p.2 := by simp [inR]
def Rights (l : List (Int × Int)) : Prop := ∀ p ∈ l, rt p.1 p.2 = true
/-- those of a list that are in one. -/
def insideL (l : List (Int × Int)) (p : Int × Int) : List (Int × Int) := l.filter fun q => inR q p
/-- has one of them all of it? -/
def coverL (l : List (Int × Int)) (p : Int × Int) : Bool := l.any fun q => inR p q
theorem cover_has {l : List (Int × Int)} {p : Int × Int} (hl : Rights l) (hp : rt p.1 p.2 = true) (h : coverL l p = true) (x : Int) (h1 : p.1 ≤ x) (h2 : x < p.1 + pw p.2) : inPB l x = true := by
  unfold coverL at h
  rw [List.any_eq_true] at h
  obtain ⟨q, hq, hin⟩ := h
  rw [inR_iff] at hin
  have hpos := pw_pos p.2
  have := nested (hl q hq) hp ⟨hin.2.1, hin.2.2⟩ ⟨Int.le_refl p.1, by omega⟩ hin.1
  rw [inPB_iff]
  exact ⟨q, hq, by omega, by omega⟩
theorem inside_has {l : List (Int × Int)} {p : Int × Int} (hl : Rights l) (hp : rt p.1 p.2 = true) (h : coverL l p = false) (x : Int) (h1 : p.1 ≤ x) (h2 : x < p.1 + pw p.2) : inPB l x = inPB (insideL l p) x := by
  refine bool_of_iff (inPB_iff _ _) (inPB_iff _ _) ⟨?_, ?_⟩
  · rintro ⟨q, hq, a, b⟩
    rcases Int.lt_or_le q.2 p.2 with hlt | hge
    · exfalso
      have hn := nested (hl q hq) hp ⟨a, b⟩ ⟨h1, h2⟩ (by omega)
      have hc : coverL l p = true := by
        unfold coverL
        rw [List.any_eq_true]
        exact ⟨q, hq, (inR_iff _ _).2 ⟨by omega, hn.1, hn.2.1⟩⟩
      rw [h] at hc
      simp at hc
    · have hn := nested hp (hl q hq) ⟨h1, h2⟩ ⟨a, b⟩ hge
      exact ⟨q, List.mem_filter.2 ⟨hq, (inR_iff _ _).2 ⟨hge, hn.1, hn.2.1⟩⟩, a, b⟩
  · rintro ⟨q, hq, a, b⟩
    exact ⟨q, (List.mem_filter.1 hq).1, a, b⟩
theorem inside_right {l : List (Int × Int)} (p : Int × Int) (hl : Rights l) : Rights (insideL l p) := fun q hq => hl q (List.mem_filter.1 hq).1
theorem inside_32 {l : List (Int × Int)} {p : Int × Int} (hl : Rights l) (hp : p.2 = 32) (h : coverL l p = false) : insideL l p = [] := by
  unfold insideL
  rw [List.filter_eq_nil_iff]
  intro q hq hin
  rw [inR_iff] at hin
  have hq' := (rt_iff _ _).1 (hl q hq)
  have : coverL l p = true := by
    unfold coverL
    rw [List.any_eq_true]
    refine ⟨q, hq, (inR_iff _ _).2 ?_⟩
    rw [hp, pw_32] at hin
    have : q.2 = 32 := by omega
    rw [this, pw_32]
    omega
  rw [h] at this
  simp at this

/-- what a set that is built within p is. -/
structure Built (p : Int × Int) (g : Int → Bool) (L : List (Int × Int)) (all : Bool) : Prop where
  np : NP L
  within : ∀ q ∈ L, p.1 ≤ q.1 ∧ q.1 + pw q.2 ≤ p.1 + pw p.2
  has : ∀ x, p.1 ≤ x → x < p.1 + pw p.2 → (inP L x ↔ g x = true)
  all : all = true ↔ p ∈ L
theorem built_one {p : Int × Int} {g : Int → Bool} (hp : rt p.1 p.2 = true) (h : ∀ x, p.1 ≤ x → x < p.1 + pw p.2 → g x = true) : Built p g [p] true where
  np := ⟨hp, by simp, by simp, trivial⟩
  within := by simp
  has x h1 h2 := ⟨fun _ => h x h1 h2, fun _ => ⟨p, by simp, h1, h2⟩⟩
  all := by simp
theorem built_none {p : Int × Int} {g : Int → Bool} (h : ∀ x, p.1 ≤ x → x < p.1 + pw p.2 → g x = false) : Built p g [] false where
  np := trivial
  within := by simp
  has x h1 h2 := ⟨fun h' => absurd h' (inP_nil _), fun h' => by rw [h x h1 h2] at h'; simp at h'⟩
  all := by simp
theorem Built.congr {p : Int × Int} {g g' : Int → Bool} {L : List (Int × Int)} {all : Bool} (h : Built p g L all) (e : ∀ x, p.1 ≤ x → x < p.1 + pw p.2 → g x = g' x) : Built p g' L all :=
  ⟨h.np, h.within, fun x h1 h2 => by rw [← e x h1 h2]; exact h.has x h1 h2, h.all⟩
theorem rt_left {p : Int × Int} (hp : rt p.1 p.2 = true) (h : p.2 < 32) : rt p.1 (p.2 + 1) = true := by
  have hp' := (rt_iff _ _).1 hp
  exact (rt_iff _ _).2 ⟨hp'.1, by omega, mod_down (by omega) (by omega) hp'.2.2⟩
theorem rt_rightH {p : Int × Int} (hp : rt p.1 p.2 = true) (h : p.2 < 32) : rt (p.1 + pw (p.2 + 1)) (p.2 + 1) = true := by
  have hp' := (rt_iff _ _).1 hp
  have he := rt_end hp
  have hs := pw_step p.2 h
  have hpos := pw_pos (p.2 + 1)
  refine (rt_iff _ _).2 ⟨by omega, by omega, ?_⟩
  rw [Int.add_emod, mod_down (n := p.2 + 1) (by omega) (by omega) hp'.2.2]
  simp
theorem built_both {p : Int × Int} {g : Int → Bool} {l r : List (Int × Int)} (hp : rt p.1 p.2 = true) (h : p.2 < 32) (hl : Built (p.1, p.2 + 1) g l true) (hr : Built (p.1 + pw (p.2 + 1), p.2 + 1) g r true) : Built p g [p] true := by
  refine built_one hp fun x h1 h2 => ?_
  have hs := pw_step p.2 h
  by_cases hx : x < p.1 + pw (p.2 + 1)
  · exact (hl.has x h1 hx).1 ⟨_, hl.all.1 rfl, h1, hx⟩
  · exact (hr.has x (by simp only; omega) (by simp only; omega)).1 ⟨_, hr.all.1 rfl, by simp only; omega, by simp only; omega⟩
theorem built_join {p : Int × Int} {g : Int → Bool} {l r : List (Int × Int)} {a b : Bool} (hp : rt p.1 p.2 = true) (h : p.2 < 32) (hl : Built (p.1, p.2 + 1) g l a) (hr : Built (p.1 + pw (p.2 + 1), p.2 + 1) g r b) (hab : (a && b) = false) : Built p g (l ++ r) false where
  np := by
    have hp' := (rt_iff _ _).1 hp
    refine NP_append hl.np hr.np ?_ ?_
    · intro x hx y hy
      have h1 := (hl.within x hx).2
      have h2 := (hr.within y hy).1
      simp only at h1 h2
      omega
    · rintro x hx y hy ⟨s1, s2, s3, s4⟩
      have h1 := hl.within x hx
      have h2 := hr.within y hy
      simp only at h1 h2
      have hxr := (rt_iff _ _).1 (hl.np.right x hx)
      have hm : x.1 + pw x.2 = p.1 + pw (p.2 + 1) := by omega
      have hxl : p.2 + 1 ≤ x.2 := by
        rcases Int.lt_or_le x.2 (p.2 + 1) with hlt | hge
        · have := pw_mono (m := x.2) (n := p.2) (by omega) (by omega)
          have := pw_step p.2 h
          have := pw_pos (p.2 + 1)
          omega
        · exact hge
      rcases Int.lt_or_le (p.2 + 1) x.2 with hlt | hge
      · have e1 : (p.1 + pw (p.2 + 1)) % pw (x.2 - 1) = 0 := by
          refine mod_down (m := p.2 + 1) (by omega) (by omega) ?_
          rw [Int.add_emod, mod_down (n := p.2 + 1) (by omega) (by omega) hp'.2.2]
          simp
        rw [← hm, mod_add_half s1 hxr.2.1.2 s3] at e1
        have := pw_pos x.2
        omega
      · have ex : x.2 = p.2 + 1 := by omega
        have e1 : x = (p.1, p.2 + 1) := Prod.ext (by rw [ex] at hm; simp only; omega) ex
        have e2 : y = (p.1 + pw (p.2 + 1), p.2 + 1) := Prod.ext (by simp only; omega) (by simp only; omega)
        have ha := hl.all.2 (e1 ▸ hx)
        have hb := hr.all.2 (e2 ▸ hy)
        rw [ha, hb] at hab
        simp at hab
  within := by
    have hs := pw_step p.2 h
    have hpos := pw_pos (p.2 + 1)
    intro q hq
    rcases List.mem_append.1 hq with hq | hq
    · have := hl.within q hq; simp only at this; omega
    · have := hr.within q hq; simp only at this; omega
  has x h1 h2 := by
    have hs := pw_step p.2 h
    rw [inP_append]
    by_cases hx : x < p.1 + pw (p.2 + 1)
    · rw [← hl.has x h1 hx]
      constructor
      · rintro (h' | ⟨q, hq, a, b⟩)
        · exact h'
        · have := (hr.within q hq).1; simp only at this; omega
      · exact .inl
    · rw [← hr.has x (by simp only; omega) (by simp only; omega)]
      constructor
      · rintro (⟨q, hq, a, b⟩ | h')
        · have := (hl.within q hq).2; simp only at this; omega
        · exact h'
      · exact .inr
  all := by
    have hs := pw_step p.2 h
    have hpos := pw_pos (p.2 + 1)
    constructor
    · intro h; simp at h
    · intro hm
      exfalso
      rcases List.mem_append.1 hm with hq | hq
      · have := hl.within p hq; simp only at this; omega
      · have := hr.within p hq; simp only at this; omega
/-- 1: both; 2: one of them; else the first one alone. -/
def wantB (a b : Bool) (k : Int) : Bool := if k = 1 then a && b else if k = 2 then a || b else a && !b
def wantG (a b : List (Int × Int)) (k : Int) (x : Int) : Bool := wantB (inPB a x) (inPB b x) k
theorem wantB_ff (k : Int) : wantB false false k = false := by
  unfold wantB; split <;> simp
end Go.Proofs.YthehpnhjfnenoaaDoor
