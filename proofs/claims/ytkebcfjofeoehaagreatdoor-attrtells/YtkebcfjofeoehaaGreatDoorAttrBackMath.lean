/-
  What is told of a route, as text and back: plain mathematics. What is read of a text; it is read as it was written.
-/
import Derived.Test.YtkebcfjofeoehaaGreatDoorAttrText
import Derived.Test.YtkebcfjofeoehaaGreatDoorAttrUnlist
import Derived.Test.YtkebcfjofeoehaaGreatDoorAttrLead
namespace Go.Proofs.YtkebcfjofeoehaaGreatDoor
open Go.RowKit

theorem aParts_miss (c : UInt8) : ∀ (cur l : List UInt8), c ∉ l → parts c cur l = [cur ++ l]
  | cur, [], _ => by simp [parts]
  | cur, x :: r, h => by
    have h1 : ¬ x = c := fun e => h (by simp [e])
    unfold parts
    rw [if_neg h1, aParts_miss c (cur ++ [x]) r (fun e => h (by simp [e]))]
    simp
theorem aParts_hit (c : UInt8) : ∀ (cur a b : List UInt8), c ∉ a → parts c cur (a ++ c :: b) = (cur ++ a) :: parts c [] b
  | cur, [], b, _ => by simp [parts]
  | cur, x :: r, b, h => by
    have h1 : ¬ x = c := fun e => h (by simp [e])
    show parts c cur (x :: (r ++ c :: b)) = _
    conv => lhs; unfold parts
    rw [if_neg h1, aParts_hit c (cur ++ [x]) r b (fun e => h (by simp [e]))]
    simp

/-- What the digits of a number are good for. -/
structure Digs (l : List UInt8) (u : Nat) : Prop where
  all : l.all digB = true
  val : valD l = u
  pos : 1 ≤ l.length
  lead : 10 ≤ u → ∀ x, l.head? = some x → x ≠ 48
  one : u < 10 → l.length = 1
theorem ofNat_dig' (d : Nat) (h : d < 10) : (UInt8.ofNat (48 + d)).toNat = 48 + d := by simp; omega
theorem digs_of : ∀ (u : Nat), Digs (Lib.decDigits u) u := by
  intro u
  induction u using Nat.strongRecOn with
  | _ u ih =>
    by_cases h : u < 10
    · rw [Lib.decDigits_one h]
      have hd := ofNat_dig' u h
      refine ⟨?_, ?_, by simp, fun h' => by omega, fun _ => by simp⟩
      · simp only [List.all_cons, List.all_nil, Bool.and_true, digB, hd, decide_eq_true_eq]; omega
      · simp only [valD, List.foldl_cons, List.foldl_nil, hd]; omega
    · rw [decDigits_more u h]
      have hr := ih (u / 10) (by omega)
      have hd := ofNat_dig' (u % 10) (by omega)
      refine ⟨?_, ?_, by simp, fun _ x hx => ?_, fun h' => absurd h' h⟩
      · rw [List.all_append, hr.all]
        simp only [List.all_cons, List.all_nil, Bool.and_true, Bool.true_and, digB, hd, decide_eq_true_eq]; omega
      · rw [valD_snoc, hr.val, hd]; omega
      · have hp := hr.pos
        have hx' : (Lib.decDigits (u / 10)).head? = some x := by
          cases hl : Lib.decDigits (u / 10) with
          | nil => rw [hl] at hp; simp at hp
          | cons y r => rw [hl] at hx; simpa using hx
        by_cases h10 : 10 ≤ u / 10
        · exact hr.lead h10 x hx'
        · rw [Lib.decDigits_one (by omega)] at hx'
          simp only [List.head?_cons, Option.some.injEq] at hx'
          subst hx'
          intro e
          have := ofNat_dig' (u / 10) (by omega)
          rw [e] at this
          have h48 : (48 : UInt8).toNat = 48 := rfl
          omega
theorem decDigits_short (u : Nat) (h : u ≤ 9999) : (Lib.decDigits u).length ≤ 4 := by
  by_cases h1 : u < 10
  · rw [Lib.decDigits_one h1]; simp
  rw [decDigits_more u h1]
  by_cases h2 : u / 10 < 10
  · rw [Lib.decDigits_one h2]; simp
  rw [decDigits_more _ h2]
  by_cases h3 : u / 10 / 10 < 10
  · rw [Lib.decDigits_one h3]; simp
  rw [decDigits_more _ h3, Lib.decDigits_one (by omega)]; simp
theorem itoa_dec (n : Int) (h : 0 ≤ n) : Lib.itoa n = Lib.decDigits n.toNat := by
  obtain ⟨u, rfl⟩ := Int.eq_ofNat_of_zero_le h
  rw [Lib.itoa_nonneg]; rfl
/-- the text of a number from 0 to 9999: digits alone, read as they were written. -/
structure NumText (l : List UInt8) (n : Int) : Prop where
  ok : okNum l = true
  val : numR l = n
  dig : ∀ c ∈ l, digB c = true
  pos : 1 ≤ l.length
theorem itoa_text (n : Int) (h0 : 0 ≤ n) (h1 : n ≤ 9999) : NumText (Lib.itoa n) n := by
  rw [itoa_dec n h0]
  have hd := digs_of n.toNat
  have hs := decDigits_short n.toNat (by omega)
  have ok : okNum (Lib.decDigits n.toNat) = true := by
    refine okNum_yes _ hd.pos (by omega) ?_ hd.all
    rintro ⟨a, b⟩
    by_cases h : n.toNat < 10
    · have := hd.one h; omega
    · exact hd.lead (by omega) _ a rfl
  refine ⟨ok, ?_, fun c hc => List.all_eq_true.1 hd.all c hc, hd.pos⟩
  rw [numR_yes ok, hd.val]; omega
theorem NumText.not {l : List UInt8} {n : Int} (h : NumText l n) (c : UInt8) (hc : c.toNat < 48) : c ∉ l := fun hm => by
  have := h.dig c hm
  simp [digB] at this
  omega

/-- the words of a joined list are its numbers' texts. -/
theorem parts_flat (c : UInt8) (hc : c.toNat < 48) : ∀ (x : Int) (r : List Int), (∀ y ∈ x :: r, 0 ≤ y ∧ y ≤ 9999) → parts c [] (joinN c (x :: r)) = (x :: r).map Lib.itoa
  | x, [], h => by
    have := (itoa_text x (h x (by simp)).1 (h x (by simp)).2).not c hc
    simp only [joinN, List.flatMap_nil, List.append_nil]
    rw [aParts_miss c [] _ this]; simp
  | x, y :: r, h => by
    have hx := (itoa_text x (h x (by simp)).1 (h x (by simp)).2).not c hc
    have ih := parts_flat c hc y r (fun z hz => h z (by simp at hz ⊢; exact Or.inr hz))
    have e : joinN c (x :: y :: r) = Lib.itoa x ++ c :: joinN c (y :: r) := by simp [joinN]
    rw [e, aParts_hit c [] _ _ hx, ih]; simp
theorem head_text {x : Int} (h0 : 0 ≤ x) (h1 : x ≤ 9999) (r : List UInt8) : Lib.itoa x ++ r ≠ [45] := by
  have h := itoa_text x h0 h1
  intro e
  have : (45 : UInt8) ∈ Lib.itoa x := by
    have hp := h.pos
    cases hl : Lib.itoa x with
    | nil => rw [hl] at hp; simp at hp
    | cons y q =>
      rw [hl] at e
      simp only [List.cons_append, List.cons.injEq] at e
      rw [e.1]; simp
  exact h.not 45 (by decide) this
theorem unl_join (c : UInt8) (hc : c.toNat < 48) (L : List Int) (h : ∀ y ∈ L, 0 ≤ y ∧ y ≤ 9999) : unlOk c (joinN c L) = true ∧ unlN c (joinN c L) = L := by
  cases L with
  | nil => simp [joinN, unlOk, unlN]
  | cons x r =>
    have hne : ¬ joinN c (x :: r) = [45] := head_text (h x (by simp)).1 (h x (by simp)).2 _
    unfold unlOk unlN
    rw [if_neg hne, if_neg hne, parts_flat c hc x r h]
    constructor
    · unfold allNum
      rw [List.all_eq_true]
      intro l hl
      obtain ⟨y, hy, rfl⟩ := List.mem_map.1 hl
      exact (itoa_text y (h y hy).1 (h y hy).2).ok
    · rw [List.map_map]
      conv => rhs; rw [← List.map_id (x :: r)]
      apply List.map_congr_left
      intro y hy
      exact (itoa_text y (h y hy).1 (h y hy).2).val
theorem join_blank (c : UInt8) (hc : c ≠ 32) (L : List Int) (h : ∀ y ∈ L, 0 ≤ y ∧ y ≤ 9999) : (32 : UInt8) ∉ joinN c L := by
  cases L with
  | nil => simp [joinN]
  | cons x r =>
    simp only [joinN, List.mem_append, List.mem_flatMap, not_or]
    refine ⟨(itoa_text x (h x (by simp)).1 (h x (by simp)).2).not 32 (by decide), ?_⟩
    rintro ⟨y, hy, hm⟩
    rcases List.mem_cons.1 hm with e | hm
    · exact hc e.symm
    · exact (itoa_text y (h y (by simp [hy])).1 (h y (by simp [hy])).2).not 32 (by decide) hm

/-- what five words say, and whether they are numbers. -/
def wordsOk : List (List UInt8) → Bool
  | [a, b, c, d, e] => unlOk 45 a && unlOk 44 e && allNum [b, c, d]
  | _ => false
def wordsA : List (List UInt8) → At
  | [a, b, c, d, e] => ⟨unlN 45 a, numR b, numR c, numR d, unlN 44 e⟩
  | _ => noneA
/-- the error's number of a reading, and what is read. -/
def readC (l : List UInt8) : Int := if wordsOk (parts 32 [] l) then (faultA (wordsA (parts 32 [] l))).1 else 1
def readA (l : List UInt8) : At := if readC l = 0 then wordsA (parts 32 [] l) else noneA

theorem parts_text {A : At} (h : RightA A) : parts 32 [] (textA A) = [joinN 45 A.path, Lib.itoa A.pref, Lib.itoa A.med, Lib.itoa A.org, joinN 44 A.tags] := by
  have e : textA A = joinN 45 A.path ++ 32 :: (Lib.itoa A.pref ++ 32 :: (Lib.itoa A.med ++ 32 :: (Lib.itoa A.org ++ 32 :: joinN 44 A.tags))) := by simp [textA]
  have hp : ∀ y ∈ A.path, 0 ≤ y ∧ y ≤ 9999 := fun y hy => by have := h.sys y hy; omega
  have ht : ∀ y ∈ A.tags, 0 ≤ y ∧ y ≤ 9999 := fun y hy => by have := h.tag y hy; omega
  rw [e, aParts_hit 32 [] _ _ (join_blank 45 (by decide) _ hp),
    aParts_hit 32 [] _ _ ((itoa_text A.pref (by have := h.pref; omega) (by have := h.pref; omega)).not 32 (by decide)),
    aParts_hit 32 [] _ _ ((itoa_text A.med (by have := h.med; omega) (by have := h.med; omega)).not 32 (by decide)),
    aParts_hit 32 [] _ _ ((itoa_text A.org (by have := h.org; omega) (by have := h.org; omega)).not 32 (by decide)),
    aParts_miss 32 [] _ (join_blank 44 (by decide) _ ht)]
  simp
theorem words_text {A : At} (h : RightA A) : wordsOk (parts 32 [] (textA A)) = true ∧ wordsA (parts 32 [] (textA A)) = A := by
  rw [parts_text h]
  have hp : ∀ y ∈ A.path, 0 ≤ y ∧ y ≤ 9999 := fun y hy => by have := h.sys y hy; omega
  have ht : ∀ y ∈ A.tags, 0 ≤ y ∧ y ≤ 9999 := fun y hy => by have := h.tag y hy; omega
  have b := itoa_text A.pref (by have := h.pref; omega) (by have := h.pref; omega)
  have c := itoa_text A.med (by have := h.med; omega) (by have := h.med; omega)
  have d := itoa_text A.org (by have := h.org; omega) (by have := h.org; omega)
  obtain ⟨p1, p2⟩ := unl_join 45 (by decide) A.path hp
  obtain ⟨t1, t2⟩ := unl_join 44 (by decide) A.tags ht
  constructor
  · simp [wordsOk, p1, t1, allNum, b.ok, c.ok, d.ok]
  · simp [wordsA, p2, t2, b.val, c.val, d.val]
theorem read_text {A : At} (h : RightA A) : readC (textA A) = 0 ∧ readA (textA A) = A := by
  obtain ⟨a, b⟩ := words_text h
  have : readC (textA A) = 0 := by unfold readC; rw [a, b, fault_of_right h]; rfl
  refine ⟨this, ?_⟩
  unfold readA
  rw [if_pos this, b]
end Go.Proofs.YtkebcfjofeoehaaGreatDoor
