/-
  Sets of addresses as spans and as prefixes: plain mathematics: a normal list of prefixes is told by the addresses that it has.
-/
import Derived.Test.YthehpnhjfnenoaaDoorBits
namespace Go.Proofs.YthehpnhjfnenoaaDoor
open Go

/-- an address in a list of spans (from, end). -/
def inS (S : List (Int × Int)) (x : Int) : Prop := ∃ s ∈ S, s.1 ≤ x ∧ x < s.2
/-- an address in a list of prefixes (address, length). -/
def inP (L : List (Int × Int)) (x : Int) : Prop := ∃ p ∈ L, p.1 ≤ x ∧ x < p.1 + pw p.2
theorem inS_nil (x : Int) : ¬ inS [] x := by rintro ⟨s, hs, -⟩; cases hs
theorem inP_nil (x : Int) : ¬ inP [] x := by rintro ⟨s, hs, -⟩; cases hs
theorem inS_cons (s : Int × Int) (S : List (Int × Int)) (x : Int) : inS (s :: S) x ↔ (s.1 ≤ x ∧ x < s.2) ∨ inS S x := by simp [inS]
theorem inP_cons (s : Int × Int) (S : List (Int × Int)) (x : Int) : inP (s :: S) x ↔ (s.1 ≤ x ∧ x < s.1 + pw s.2) ∨ inP S x := by simp [inP]
theorem inS_append (S T : List (Int × Int)) (x : Int) : inS (S ++ T) x ↔ inS S x ∨ inS T x := by
  simp [inS, or_and_right, exists_or]
theorem inP_append (S T : List (Int × Int)) (x : Int) : inP (S ++ T) x ↔ inP S x ∨ inP T x := by
  simp [inP, or_and_right, exists_or]

/-- spans: none empty, rising, apart. -/
def Sep : List (Int × Int) → Prop
  | [] => True
  | s :: r => s.1 < s.2 ∧ (∀ t ∈ r, s.2 < t.1) ∧ Sep r
theorem Sep.mem {S : List (Int × Int)} (h : Sep S) : ∀ s ∈ S, s.1 < s.2 := by
  induction S with
  | nil => simp
  | cons s r ih =>
    intro t ht
    rcases List.mem_cons.1 ht with rfl | ht
    · exact h.1
    · exact ih h.2.2 t ht

/-- spans that rise by where they begin, put together: c: the one at hand. -/
def joinG : Int × Int → List (Int × Int) → List (Int × Int)
  | c, [] => [c]
  | c, x :: r => if x.1 ≤ c.2 then joinG (c.1, max c.2 x.2) r else c :: joinG x r
def joinS : List (Int × Int) → List (Int × Int)
  | [] => []
  | x :: r => joinG x r
/-- rising by where they begin, none empty. -/
def Rise : List (Int × Int) → Prop
  | [] => True
  | s :: r => s.1 < s.2 ∧ (∀ t ∈ r, s.1 ≤ t.1) ∧ Rise r
theorem joinG_sep (r : List (Int × Int)) : ∀ c : Int × Int, c.1 < c.2 → (∀ t ∈ r, c.1 ≤ t.1) → Rise r →
    Sep (joinG c r) ∧ (∀ t ∈ joinG c r, c.1 ≤ t.1) ∧ ∀ x, inS (joinG c r) x ↔ inS (c :: r) x := by
  induction r with
  | nil => intro c hc _ _; exact ⟨⟨hc, by simp, trivial⟩, by simp [joinG], fun x => Iff.rfl⟩
  | cons y r ih =>
    intro c hc hr hR
    have hy := hr y (by simp)
    obtain ⟨hy1, hy2, hy3⟩ := hR
    unfold joinG
    split
    · rename_i hle
      obtain ⟨h1, h2, h3⟩ := ih (c.1, max c.2 y.2) (by simp only; omega) (fun t ht => hr t (by simp [ht])) hy3
      refine ⟨h1, h2, fun x => ?_⟩
      rw [h3, inS_cons, inS_cons, inS_cons]
      simp only
      constructor
      · rintro (h | h)
        · by_cases hx : x < c.2
          · exact .inl ⟨h.1, hx⟩
          · exact .inr (.inl ⟨by omega, by omega⟩)
        · exact .inr (.inr h)
      · rintro (h | h | h)
        · exact .inl ⟨h.1, by omega⟩
        · exact .inl ⟨by omega, by omega⟩
        · exact .inr h
    · rename_i hgt
      obtain ⟨h1, h2, h3⟩ := ih y hy1 hy2 hy3
      refine ⟨⟨hc, fun t ht => by have := h2 t ht; omega, h1⟩, ?_, fun x => ?_⟩
      · intro t ht
        rcases List.mem_cons.1 ht with rfl | ht
        · exact Int.le_refl _
        · have := h2 t ht; omega
      · rw [inS_cons, h3, inS_cons c]
theorem joinS_sep (s : List (Int × Int)) (h : Rise s) : Sep (joinS s) ∧ ∀ x, inS (joinS s) x ↔ inS s x := by
  cases s with
  | nil => exact ⟨trivial, fun _ => Iff.rfl⟩
  | cons c r => obtain ⟨h1, -, h3⟩ := joinG_sep r c h.1 h.2.1 h.2.2; exact ⟨h1, h3⟩

/-- two prefixes, the lower one first, that are the halves of one. -/
def Sib (p q : Int × Int) : Prop := 1 ≤ p.2 ∧ q.2 = p.2 ∧ p.1 % pw (p.2 - 1) = 0 ∧ q.1 = p.1 + pw p.2
/-- a normal list: right prefixes, rising, none in another, no two halves of one. -/
def NP : List (Int × Int) → Prop
  | [] => True
  | p :: r => rt p.1 p.2 = true ∧ (∀ q ∈ r, p.1 + pw p.2 ≤ q.1) ∧ (∀ q ∈ r, ¬ Sib p q) ∧ NP r
theorem NP.right {L : List (Int × Int)} (h : NP L) : ∀ p ∈ L, rt p.1 p.2 = true := by
  induction L with
  | nil => simp
  | cons p r ih =>
    intro q hq
    rcases List.mem_cons.1 hq with rfl | hq
    · exact h.1
    · exact ih h.2.2.2 q hq
theorem NP_append {L M : List (Int × Int)} (hL : NP L) (hM : NP M) (h1 : ∀ p ∈ L, ∀ q ∈ M, p.1 + pw p.2 ≤ q.1) (h2 : ∀ p ∈ L, ∀ q ∈ M, ¬ Sib p q) : NP (L ++ M) := by
  induction L with
  | nil => exact hM
  | cons p r ih =>
    obtain ⟨a, b, c, d⟩ := hL
    refine ⟨a, ?_, ?_, ih d (fun p hp => h1 p (by simp [hp])) (fun p hp => h2 p (by simp [hp]))⟩
    · intro q hq
      rcases List.mem_append.1 hq with hq | hq
      · exact b q hq
      · exact h1 p (by simp) q hq
    · intro q hq
      rcases List.mem_append.1 hq with hq | hq
      · exact c q hq
      · exact h2 p (by simp) q hq

theorem pw_half (n : Int) (h1 : 1 ≤ n) (h2 : n ≤ 32) : pw (n - 1) = 2 * pw n := by
  have := pw_step (n - 1) (by omega)
  rw [this]; congr 2; omega
theorem mod_down {a m n : Int} (h : m ≤ n) (hn : n ≤ 32) (ha : a % pw m = 0) : a % pw n = 0 := by
  obtain ⟨k, -, hk⟩ := pw_dvd m n h hn
  rw [hk] at ha
  have := Int.mul_ediv_add_emod a (k * pw n)
  rw [ha] at this
  have e : a = (k * (a / (k * pw n))) * pw n := by
    rw [Int.mul_assoc, Int.mul_comm (a / _), ← Int.mul_assoc]; omega
  rw [e]; exact Int.mul_emod_left _ _
theorem pw_mono {m n : Int} (h : m ≤ n) (hn : n ≤ 32) : pw n ≤ pw m := by
  obtain ⟨k, h1, hk⟩ := pw_dvd m n h hn
  have := pw_pos n
  rw [hk]
  calc pw n = 1 * pw n := by omega
    _ ≤ k * pw n := Int.mul_le_mul_of_nonneg_right h1 (by omega)
theorem mod_add_half {a n : Int} (h1 : 1 ≤ n) (h2 : n ≤ 32) (ha : a % pw (n - 1) = 0) : (a + pw n) % pw (n - 1) = pw n := by
  have hp := pw_half n h1 h2
  have hq := pw_pos n
  rw [Int.add_emod, ha, Int.zero_add, Int.emod_emod]
  exact Int.emod_eq_of_lt (by omega) (by omega)

/-- a normal list that begins with a half of one has not all of that one. -/
theorem np_not_wide (M : List (Int × Int)) : ∀ q : Int × Int, NP (q :: M) → 1 ≤ q.2 → q.1 % pw (q.2 - 1) = 0 → ∃ x, q.1 ≤ x ∧ x < q.1 + pw (q.2 - 1) ∧ ¬ inP (q :: M) x := by
  induction M with
  | nil =>
    intro q hN h1 hm
    have hq := (rt_iff _ _).1 hN.1
    have hp := pw_half q.2 h1 hq.2.1.2
    have := pw_pos q.2
    refine ⟨q.1 + pw q.2, by omega, by omega, ?_⟩
    rw [inP_cons]
    rintro (h | h)
    · omega
    · exact inP_nil _ h
  | cons r M ih =>
    intro q hN h1 hm
    obtain ⟨hq, hA, hS, hR⟩ := hN
    have hq' := (rt_iff _ _).1 hq
    have hr' := (rt_iff _ _).1 hR.1
    have hp := pw_half q.2 h1 hq'.2.1.2
    have hpos := pw_pos q.2
    have hra := hA r (by simp)
    by_cases he : r.1 = q.1 + pw q.2
    · rcases Int.lt_trichotomy r.2 q.2 with hlt | heq | hgt
      · exfalso
        have h3 := mod_down (m := r.2) (n := q.2 - 1) (by omega) (by omega) hr'.2.2
        rw [he, mod_add_half h1 hq'.2.1.2 hm] at h3
        omega
      · exact absurd ⟨h1, heq, hm, he⟩ (hS r (by simp))
      · have hmod : r.1 % pw (r.2 - 1) = 0 := by
          apply mod_down (m := q.2) (by omega) (by omega)
          rw [he, Int.add_emod, hq'.2.2, Int.zero_add, Int.emod_emod, Int.emod_self]
        obtain ⟨x, x1, x2, x3⟩ := ih r hR (by omega) hmod
        have hmono := pw_mono (m := q.2) (n := r.2 - 1) (by omega) (by omega)
        refine ⟨x, by omega, by omega, ?_⟩
        rw [inP_cons]
        rintro (h | h)
        · omega
        · exact x3 h
    · refine ⟨q.1 + pw q.2, by omega, by omega, ?_⟩
      rw [inP_cons]
      rintro (h | ⟨t, ht, h⟩)
      · omega
      · rcases List.mem_cons.1 ht with rfl | ht
        · omega
        · have := hR.2.1 t ht
          have := pw_pos r.2
          omega

theorem np_head_le {p q : Int × Int} {L M : List (Int × Int)} (hM : NP (q :: M)) (h : ∀ x, inP (p :: L) x → inP (q :: M) x) : q.1 ≤ p.1 := by
  have hp := pw_pos p.2
  obtain ⟨t, ht, h1⟩ := h p.1 ⟨p, by simp, by omega, by omega⟩
  rcases List.mem_cons.1 ht with rfl | ht
  · exact h1.1
  · have := hM.2.1 t ht
    have := pw_pos q.2
    omega
theorem np_len_le {p q : Int × Int} {L M : List (Int × Int)} (hL : NP (p :: L)) (hM : NP (q :: M)) (he : p.1 = q.1) (h : ∀ x, inP (p :: L) x → inP (q :: M) x) : q.2 ≤ p.2 := by
  rcases Int.lt_or_le p.2 q.2 with hlt | hge
  · exfalso
    have hp := (rt_iff _ _).1 hL.1
    have hq := (rt_iff _ _).1 hM.1
    obtain ⟨x, x1, x2, x3⟩ := np_not_wide M q hM (by omega) (by rw [← he]; exact mod_down (m := p.2) (by omega) (by omega) hp.2.2)
    have := pw_mono (m := p.2) (n := q.2 - 1) (by omega) (by omega)
    exact x3 (h x ⟨p, by simp, by omega, by omega⟩)
  · exact hge
/-- a normal list is told by what it has. -/
theorem np_unique (L : List (Int × Int)) : ∀ M, NP L → NP M → (∀ x, inP L x ↔ inP M x) → L = M := by
  induction L with
  | nil =>
    intro M _ hM h
    cases M with
    | nil => rfl
    | cons q M => have := pw_pos q.2; exact absurd ((h q.1).2 ⟨q, by simp, by omega, by omega⟩) (inP_nil _)
  | cons p L ih =>
    intro M hL hM h
    cases M with
    | nil => have := pw_pos p.2; exact absurd ((h p.1).1 ⟨p, by simp, by omega, by omega⟩) (inP_nil _)
    | cons q M =>
      have e1 : p.1 = q.1 := by
        have a := np_head_le hM (fun x => (h x).1)
        have b := np_head_le hL (fun x => (h x).2)
        omega
      have e2 : p.2 = q.2 := by
        have a := np_len_le hL hM e1 (fun x => (h x).1)
        have b := np_len_le hM hL e1.symm (fun x => (h x).2)
        omega
      have e : p = q := Prod.ext e1 e2
      subst e
      congr 1
      refine ih M hL.2.2.2 hM.2.2.2 fun x => ?_
      have hx := h x
      rw [inP_cons, inP_cons] at hx
      constructor
      · intro hL'
        rcases hx.1 (.inr hL') with hh | hh
        · obtain ⟨t, ht, h1⟩ := hL'; have := hL.2.1 t ht; omega
        · exact hh
      · intro hM'
        rcases hx.2 (.inr hM') with hh | hh
        · obtain ⟨t, ht, h1⟩ := hM'; have := hM.2.1 t ht; omega
        · exact hh

/-- the widest prefix that a span begins with. -/
def Wid (f e n : Int) : Prop := (0 ≤ n ∧ n ≤ 32) ∧ f % pw n = 0 ∧ f + pw n ≤ e ∧ (n = 0 ∨ ¬ (f % pw (n - 1) = 0 ∧ f + pw (n - 1) ≤ e))
/-- a span as its widest prefixes. -/
inductive Tile : Int → Int → List (Int × Int) → Prop
  | nil (e : Int) : Tile e e []
  | cons {f e n : Int} {L : List (Int × Int)} : Wid f e n → Tile (f + pw n) e L → Tile f e ((f, n) :: L)
theorem Tile.facts {f e : Int} {L : List (Int × Int)} (h : Tile f e L) : 0 ≤ f → e ≤ 4294967296 →
    f ≤ e ∧ NP L ∧ (∀ p ∈ L, f ≤ p.1 ∧ p.1 + pw p.2 ≤ e) ∧ ∀ x, inP L x ↔ f ≤ x ∧ x < e := by
  induction h with
  | nil e =>
    intro _ _
    refine ⟨Int.le_refl _, trivial, by simp, fun x => ?_⟩
    constructor
    · intro h; exact absurd h (inP_nil _)
    · intro h; omega
  | @cons f e n L hw _ ih =>
    intro h0 h1
    obtain ⟨hn, hm, hle, hwide⟩ := hw
    have hp := pw_pos n
    obtain ⟨i1, i2, i3, i4⟩ := ih (by omega) h1
    refine ⟨by omega, ⟨?_, fun q hq => (i3 q hq).1, ?_, i2⟩, ?_, fun x => ?_⟩
    · exact (rt_iff f n).2 ⟨⟨h0, by omega⟩, hn, hm⟩
    · rintro q hq ⟨s1, s2, s3, s4⟩
      simp only at s1 s2 s3 s4
      have h2 := pw_half n s1 hn.2
      have h3 := (i3 q hq).2
      rw [s2] at h3
      rcases hwide with h | h
      · omega
      · exact h ⟨s3, by omega⟩
    · intro q hq
      rcases List.mem_cons.1 hq with rfl | hq
      · exact ⟨Int.le_refl _, hle⟩
      · have := i3 q hq; exact ⟨by omega, this.2⟩
    · rw [inP_cons, i4]
      simp only
      constructor
      · rintro (h | h) <;> omega
      · intro h
        by_cases hx : x < f + pw n
        · exact .inl ⟨h.1, hx⟩
        · exact .inr ⟨by omega, h.2⟩
/-- spans as their widest prefixes. -/
inductive Tiled : List (Int × Int) → List (Int × Int) → Prop
  | nil : Tiled [] []
  | cons {s : Int × Int} {S L M : List (Int × Int)} : Tile s.1 s.2 L → Tiled S M → Tiled (s :: S) (L ++ M)
theorem Tiled.snoc {S L M : List (Int × Int)} {s : Int × Int} (h : Tiled S L) (hs : Tile s.1 s.2 M) : Tiled (S ++ [s]) (L ++ M) := by
  induction h with
  | nil => simpa using Tiled.cons hs Tiled.nil
  | cons h1 _ ih => rw [List.append_assoc]; exact Tiled.cons h1 ih
theorem Tiled.facts {S L : List (Int × Int)} (h : Tiled S L) : Sep S → (∀ s ∈ S, 0 ≤ s.1 ∧ s.2 ≤ 4294967296) →
    NP L ∧ (∀ p ∈ L, ∃ s ∈ S, s.1 ≤ p.1 ∧ p.1 + pw p.2 ≤ s.2) ∧ ∀ x, inP L x ↔ inS S x := by
  induction h with
  | nil => intro _ _; exact ⟨trivial, by simp, fun x => ⟨fun h => absurd h (inP_nil _), fun h => absurd h (inS_nil _)⟩⟩
  | @cons s S L M h1 _ ih =>
    intro hs hb
    obtain ⟨a1, a2, a3, a4⟩ := h1.facts (hb s (by simp)).1 (hb s (by simp)).2
    obtain ⟨b1, b2, b3⟩ := ih hs.2.2 (fun t ht => hb t (by simp [ht]))
    refine ⟨NP_append a2 b1 ?_ ?_, ?_, fun x => ?_⟩
    · intro p hp q hq
      obtain ⟨t, ht, h3, -⟩ := b2 q hq
      have := (a3 p hp).2
      have := hs.2.1 t ht
      omega
    · rintro p hp q hq ⟨-, -, -, h4⟩
      obtain ⟨t, ht, h3, -⟩ := b2 q hq
      have := (a3 p hp).2
      have := hs.2.1 t ht
      omega
    · intro p hp
      rcases List.mem_append.1 hp with hp | hp
      · exact ⟨s, by simp, (a3 p hp).1, (a3 p hp).2⟩
      · obtain ⟨t, ht, h3⟩ := b2 p hp
        exact ⟨t, by simp [ht], h3⟩
    · rw [inP_append, a4, b3, inS_cons]
end Go.Proofs.YthehpnhjfnenoaaDoor
