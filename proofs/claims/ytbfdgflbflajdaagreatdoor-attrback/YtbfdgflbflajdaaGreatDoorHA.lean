/-
  The document's unlist: the numbers of a text, or none.
  What is told of a route, as text and back: plain mathematics. What is read of a text; it is read as it was written.
  Texts cut at a byte, as package strings cuts them: the document's words. Plain mathematics.
-/
import Derived.Test.YtbfdgflbflajdaaGreatDoorGC
import Derived.Test.YtbfdgflbflajdaaGreatDoorGE
import Derived.Test.YtbfdgflbflajdaaGreatDoorGM
import Derived.Lib.SplitLaws
import Derived.Lib.CountLaws
namespace Go.Proofs.YtbfdgflbflajdaaGreatDoor
open Go.RowKit

theorem parts_short (c : UInt8) (cur r : List UInt8) : ∀ x ∈ parts c cur r, x.length ≤ cur.length + r.length := by
  induction r generalizing cur with
  | nil => intro x hx; simp [parts] at hx; subst hx; simp
  | cons y r ih =>
    intro x hx
    unfold parts at hx
    split at hx
    · rcases List.mem_cons.1 hx with rfl | hx
      · simp
      · have := ih [] x hx; simp at this ⊢; omega
    · have := ih (cur ++ [y]) x hx; simp at this ⊢; omega
/-- a list's text says numbers (or none). -/
def unlOk (c : UInt8) (l : List UInt8) : Bool := if l = [45] then true else allNum (parts c [] l)
/-- its numbers. -/
def unlN (c : UInt8) (l : List UInt8) : List Int := if l = [45] then [] else (parts c [] l).map numR
/-- what a row of numbers that was read is: its numbers where they are all right, else none. -/
def ReadRow (w : World) (B : Nat) (v : Value) (ok : Bool) (N : List Int) : Prop :=
  (ok = true ∧ w.ownsRow B 3 1 v N.length (N.map intV)) ∨ (ok = false ∧ v = .slice none 0 0)
theorem ReadRow.below {w w' : World} {B : Nat} {v : Value} {ok : Bool} {N : List Int} (h : ReadRow w B v ok N) (hb : Below w.heap.size w w') : ReadRow w' B v ok N := by
  rcases h with ⟨a, b⟩ | ⟨a, b⟩
  · refine .inl ⟨a, b.1, ?_⟩
    rcases b.2 with h2 | ⟨g, cap, cur, rfl, h3, hg, r⟩
    · exact .inl h2
    · exact .inr ⟨g, cap, cur, rfl, h3, by rw [hb.block g (b.lt g rfl).2]; exact hg, r⟩
  · exact .inr ⟨a, b⟩

set_option linter.unusedVariables false in
set_option maxRecDepth 100000 in
set_option maxHeartbeats 4000000 in
theorem rUnlist_any (s : ByteArray) (c : UInt8) (w : World) (hs : s.size < 4294967281) :
    Calls Tryz.prog 59 #[.string s, .int .u8 (c.toNat : Int)] w fun e w' => (∃ v, e = .returned (.tuple #[v, .bool (unlOk c s.data.toList)]) ∧ ReadRow w' w.heap.size v (unlOk c s.data.toList) (unlN c s.data.toList)) ∧ Below w.heap.size w w' := by
  by_cases h : s = ⟨#[45]⟩
  · subst h
    go_enter Tryz.func59, Tryz.ntmps59
    go_wp2_with fail
    exact bodyPost_ret (v := .tuple #[.slice none 0 0, .bool true]) (by simp [results, Tryz.results59, go_sem]) rfl ⟨⟨.slice none 0 0, rfl, .inl ⟨rfl, World.ownsRow_nil _ _ _ _⟩⟩, Below.refl _ _⟩
  · have hl : ¬ s.data.toList = [45] := by
      intro e
      apply h
      obtain ⟨⟨l⟩⟩ := s
      simp only at e
      subst e
      rfl
    have he : (s.toList == [45]) = false := by rw [ByteArray.toList_eq, beq_eq_false_iff_ne]; exact hl
    have e1 : unlOk c s.data.toList = allNum (parts c [] s.data.toList) := by unfold unlOk; rw [if_neg hl]
    have e2 : unlN c s.data.toList = (parts c [] s.data.toList).map numR := by unfold unlN; rw [if_neg hl]
    rw [e1, e2]
    obtain ⟨HC⟩ : Nonempty (Hid (Calls _ _ _ _ _)) := ⟨rCut_any s c w hs⟩
    have hp := parts_length c [] s.data.toList
    rw [len_data] at hp
    have HX : Hid (∀ x ∈ parts c [] s.data.toList, x.length ≤ maxLen) := fun x hx => by
      have := parts_short c [] s.data.toList x hx
      rw [len_data] at this
      unfold maxLen
      simp at this
      omega
    obtain ⟨L, hL⟩ : ∃ L, Hid (parts c [] s.data.toList = L) := ⟨_, show _ = _ from rfl⟩
    rw [show parts c [] s.data.toList = L from hL.out] at HC hp HX ⊢
    clear e1 e2 hl h
    go_enter Tryz.func59, Tryz.ntmps59
    go_wp2_with fail
    refine HC.out.mono ?_
    rintro e w1 ⟨⟨v, rfl, hown⟩, hb1⟩
    obtain ⟨q, cap, rfl, -, -, hq⟩ := own_strs hown
    obtain ⟨HN⟩ : Nonempty (Hid (Calls _ _ _ _ _)) := ⟨rNumbersOf_any q L _ cap w1 hq rfl (by omega) HX.out⟩
    obtain ⟨HB1⟩ : Nonempty (Hid (Below w.heap.size w w1)) := ⟨hb1⟩
    clear HC hown hq hb1
    go_wp2_with fail
    refine HN.out.mono ?_
    rintro e w2 ⟨⟨v, rfl, hv⟩, hb2⟩
    obtain ⟨HV⟩ : Nonempty (Hid (ReadRow w2 w.heap.size v (allNum L) (L.map numR) ∧ Below w.heap.size w w2)) := ⟨⟨by
      rcases hv with ⟨a, b⟩ | ⟨a, b⟩
      · refine .inl ⟨a, ?_⟩
        rw [List.length_map]
        exact ⟨b.1, b.2.imp id fun ⟨g, cap, cur, h1, h2, h3⟩ => ⟨g, cap, cur, h1, Nat.le_trans HB1.out.size h2, h3⟩⟩
      · exact .inr ⟨a, b⟩, HB1.out.trans (hb2.mono HB1.out.size)⟩⟩
    obtain ⟨ok, hok⟩ : ∃ b, Hid (allNum L = b) := ⟨_, show _ = _ from rfl⟩
    rw [show allNum L = ok from hok.out] at HV ⊢
    clear HN hv hb2
    go_wp2_with fail
    exact bodyPost_ret (v := .tuple #[v, .bool ok]) (by simp [results, Tryz.results59, go_sem]) rfl ⟨⟨v, by rw [hok.out], by rw [hok.out]; exact HV.out.1⟩, HV.out.2⟩
end Go.Proofs.YtbfdgflbflajdaaGreatDoor

namespace Go.Proofs.YtbfdgflbflajdaaGreatDoor
open Go.RowKit

theorem aParts_miss (c : UInt8) : ∀ (cur l : List UInt8), c ∉ l → parts c cur l = [cur ++ l]
  | cur, [], _ => by simp [parts]
  | cur, x :: r, h => by
    have h1 : ¬ x = c := fun e => h (by simp [e])
    unfold parts
    rw [if_neg h1, aParts_miss c (cur ++ [x]) r (fun e => h (by simp [e]))]
    simp
theorem aParts_hit (c : UInt8) : ∀ (cur a b : List UInt8), c ∉ a → parts c cur (a ++ c :: b) = (cur ++ a) :: parts c [] b
  | cur, [], b, _ => by simp [parts]
  | cur, x :: r, b, h => by
    have h1 : ¬ x = c := fun e => h (by simp [e])
    show parts c cur (x :: (r ++ c :: b)) = _
    conv => lhs; unfold parts
    rw [if_neg h1, aParts_hit c (cur ++ [x]) r b (fun e => h (by simp [e]))]
    simp

/-- What the digits of a number are good for. -/
structure Digs (l : List UInt8) (u : Nat) : Prop where
  all : l.all digB = true
  val : valD l = u
  pos : 1 ≤ l.length
  lead : 10 ≤ u → ∀ x, l.head? = some x → x ≠ 48
  one : u < 10 → l.length = 1
theorem ofNat_dig' (d : Nat) (h : d < 10) : (UInt8.ofNat (48 + d)).toNat = 48 + d := by simp; omega
theorem digs_of : ∀ (u : Nat), Digs (Lib.decDigits u) u := by
  intro u
  induction u using Nat.strongRecOn with
  | _ u ih =>
    by_cases h : u < 10
    · rw [Lib.decDigits_one h]
      have hd := ofNat_dig' u h
      refine ⟨?_, ?_, by simp, fun h' => by omega, fun _ => by simp⟩
      · simp only [List.all_cons, List.all_nil, Bool.and_true, digB, hd, decide_eq_true_eq]; omega
      · simp only [valD, List.foldl_cons, List.foldl_nil, hd]; omega
    · rw [decDigits_more u h]
      have hr := ih (u / 10) (by omega)
      have hd := ofNat_dig' (u % 10) (by omega)
      refine ⟨?_, ?_, by simp, fun _ x hx => ?_, fun h' => absurd h' h⟩
      · rw [List.all_append, hr.all]
        simp only [List.all_cons, List.all_nil, Bool.and_true, Bool.true_and, digB, hd, decide_eq_true_eq]; omega
      · rw [valD_snoc, hr.val, hd]; omega
      · have hp := hr.pos
        have hx' : (Lib.decDigits (u / 10)).head? = some x := by
          cases hl : Lib.decDigits (u / 10) with
          | nil => rw [hl] at hp; simp at hp
          | cons y r => rw [hl] at hx; simpa using hx
        by_cases h10 : 10 ≤ u / 10
        · exact hr.lead h10 x hx'
        · rw [Lib.decDigits_one (by omega)] at hx'
          simp only [List.head?_cons, Option.some.injEq] at hx'
          subst hx'
          intro e
          have := ofNat_dig' (u / 10) (by omega)
          rw [e] at this
          have h48 : (48 : UInt8).toNat = 48 := rfl
          omega
theorem decDigits_short (u : Nat) (h : u ≤ 9999) : (Lib.decDigits u).length ≤ 4 := by
  by_cases h1 : u < 10
  · rw [Lib.decDigits_one h1]; simp
  rw [decDigits_more u h1]
  by_cases h2 : u / 10 < 10
  · rw [Lib.decDigits_one h2]; simp
  rw [decDigits_more _ h2]
  by_cases h3 : u / 10 / 10 < 10
  · rw [Lib.decDigits_one h3]; simp
  rw [decDigits_more _ h3, Lib.decDigits_one (by omega)]; simp
theorem itoa_dec (n : Int) (h : 0 ≤ n) : Lib.itoa n = Lib.decDigits n.toNat := by
  obtain ⟨u, rfl⟩ := Int.eq_ofNat_of_zero_le h
  rw [Lib.itoa_nonneg]; rfl
/-- the text of a number from 0 to 9999: digits alone, read as they were written. -/
structure NumText (l : List UInt8) (n : Int) : Prop where
  ok : okNum l = true
  val : numR l = n
  dig : ∀ c ∈ l, digB c = true
  pos : 1 ≤ l.length
theorem itoa_text (n : Int) (h0 : 0 ≤ n) (h1 : n ≤ 9999) : NumText (Lib.itoa n) n := by
  rw [itoa_dec n h0]
  have hd := digs_of n.toNat
  have hs := decDigits_short n.toNat (by omega)
  have ok : okNum (Lib.decDigits n.toNat) = true := by
    refine okNum_yes _ hd.pos (by omega) ?_ hd.all
    rintro ⟨a, b⟩
    by_cases h : n.toNat < 10
    · have := hd.one h; omega
    · exact hd.lead (by omega) _ a rfl
  refine ⟨ok, ?_, fun c hc => List.all_eq_true.1 hd.all c hc, hd.pos⟩
  rw [numR_yes ok, hd.val]; omega
theorem NumText.not {l : List UInt8} {n : Int} (h : NumText l n) (c : UInt8) (hc : c.toNat < 48) : c ∉ l := fun hm => by
  have := h.dig c hm
  simp [digB] at this
  omega

/-- the words of a joined list are its numbers' texts. -/
theorem parts_flat (c : UInt8) (hc : c.toNat < 48) : ∀ (x : Int) (r : List Int), (∀ y ∈ x :: r, 0 ≤ y ∧ y ≤ 9999) → parts c [] (joinN c (x :: r)) = (x :: r).map Lib.itoa
  | x, [], h => by
    have := (itoa_text x (h x (by simp)).1 (h x (by simp)).2).not c hc
    simp only [joinN, List.flatMap_nil, List.append_nil]
    rw [aParts_miss c [] _ this]; simp
  | x, y :: r, h => by
    have hx := (itoa_text x (h x (by simp)).1 (h x (by simp)).2).not c hc
    have ih := parts_flat c hc y r (fun z hz => h z (by simp at hz ⊢; exact Or.inr hz))
    have e : joinN c (x :: y :: r) = Lib.itoa x ++ c :: joinN c (y :: r) := by simp [joinN]
    rw [e, aParts_hit c [] _ _ hx, ih]; simp
theorem head_text {x : Int} (h0 : 0 ≤ x) (h1 : x ≤ 9999) (r : List UInt8) : Lib.itoa x ++ r ≠ [45] := by
  have h := itoa_text x h0 h1
  intro e
  have : (45 : UInt8) ∈ Lib.itoa x := by
    have hp := h.pos
    cases hl : Lib.itoa x with
    | nil => rw [hl] at hp; simp at hp
    | cons y q =>
      rw [hl] at e
      simp only [List.cons_append, List.cons.injEq] at e
      rw [e.1]; simp
  exact h.not 45 (by decide) this
theorem unl_join (c : UInt8) (hc : c.toNat < 48) (L : List Int) (h : ∀ y ∈ L, 0 ≤ y ∧ y ≤ 9999) : unlOk c (joinN c L) = true ∧ unlN c (joinN c L) = L := by
  cases L with
  | nil => simp [joinN, unlOk, unlN]
  | cons x r =>
    have hne : ¬ joinN c (x :: r) = [45] := head_text (h x (by simp)).1 (h x (by simp)).2 _
    unfold unlOk unlN
    rw [if_neg hne, if_neg hne, parts_flat c hc x r h]
    constructor
    · unfold allNum
      rw [List.all_eq_true]
      intro l hl
      obtain ⟨y, hy, rfl⟩ := List.mem_map.1 hl
      exact (itoa_text y (h y hy).1 (h y hy).2).ok
    · rw [List.map_map]
      conv => rhs; rw [← List.map_id (x :: r)]
      apply List.map_congr_left
      intro y hy
      exact (itoa_text y (h y hy).1 (h y hy).2).val
theorem join_blank (c : UInt8) (hc : c ≠ 32) (L : List Int) (h : ∀ y ∈ L, 0 ≤ y ∧ y ≤ 9999) : (32 : UInt8) ∉ joinN c L := by
  cases L with
  | nil => simp [joinN]
  | cons x r =>
    simp only [joinN, List.mem_append, List.mem_flatMap, not_or]
    refine ⟨(itoa_text x (h x (by simp)).1 (h x (by simp)).2).not 32 (by decide), ?_⟩
    rintro ⟨y, hy, hm⟩
    rcases List.mem_cons.1 hm with e | hm
    · exact hc e.symm
    · exact (itoa_text y (h y (by simp [hy])).1 (h y (by simp [hy])).2).not 32 (by decide) hm

/-- what five words say, and whether they are numbers. -/
def wordsOk : List (List UInt8) → Bool
  | [a, b, c, d, e] => unlOk 45 a && unlOk 44 e && allNum [b, c, d]
  | _ => false
def wordsA : List (List UInt8) → At
  | [a, b, c, d, e] => ⟨unlN 45 a, numR b, numR c, numR d, unlN 44 e⟩
  | _ => noneA
/-- the error's number of a reading, and what is read. -/
def readC (l : List UInt8) : Int := if wordsOk (parts 32 [] l) then (faultA (wordsA (parts 32 [] l))).1 else 1
def readA (l : List UInt8) : At := if readC l = 0 then wordsA (parts 32 [] l) else noneA

theorem parts_text {A : At} (h : RightA A) : parts 32 [] (textA A) = [joinN 45 A.path, Lib.itoa A.pref, Lib.itoa A.med, Lib.itoa A.org, joinN 44 A.tags] := by
  have e : textA A = joinN 45 A.path ++ 32 :: (Lib.itoa A.pref ++ 32 :: (Lib.itoa A.med ++ 32 :: (Lib.itoa A.org ++ 32 :: joinN 44 A.tags))) := by simp [textA]
  have hp : ∀ y ∈ A.path, 0 ≤ y ∧ y ≤ 9999 := fun y hy => by have := h.sys y hy; omega
  have ht : ∀ y ∈ A.tags, 0 ≤ y ∧ y ≤ 9999 := fun y hy => by have := h.tag y hy; omega
  rw [e, aParts_hit 32 [] _ _ (join_blank 45 (by decide) _ hp),
    aParts_hit 32 [] _ _ ((itoa_text A.pref (by have := h.pref; omega) (by have := h.pref; omega)).not 32 (by decide)),
    aParts_hit 32 [] _ _ ((itoa_text A.med (by have := h.med; omega) (by have := h.med; omega)).not 32 (by decide)),
    aParts_hit 32 [] _ _ ((itoa_text A.org (by have := h.org; omega) (by have := h.org; omega)).not 32 (by decide)),
    aParts_miss 32 [] _ (join_blank 44 (by decide) _ ht)]
  simp
theorem words_text {A : At} (h : RightA A) : wordsOk (parts 32 [] (textA A)) = true ∧ wordsA (parts 32 [] (textA A)) = A := by
  rw [parts_text h]
  have hp : ∀ y ∈ A.path, 0 ≤ y ∧ y ≤ 9999 := fun y hy => by have := h.sys y hy; omega
  have ht : ∀ y ∈ A.tags, 0 ≤ y ∧ y ≤ 9999 := fun y hy => by have := h.tag y hy; omega
  have b := itoa_text A.pref (by have := h.pref; omega) (by have := h.pref; omega)
  have c := itoa_text A.med (by have := h.med; omega) (by have := h.med; omega)
  have d := itoa_text A.org (by have := h.org; omega) (by have := h.org; omega)
  obtain ⟨p1, p2⟩ := unl_join 45 (by decide) A.path hp
  obtain ⟨t1, t2⟩ := unl_join 44 (by decide) A.tags ht
  constructor
  · simp [wordsOk, p1, t1, allNum, b.ok, c.ok, d.ok]
  · simp [wordsA, p2, t2, b.val, c.val, d.val]
theorem read_text {A : At} (h : RightA A) : readC (textA A) = 0 ∧ readA (textA A) = A := by
  obtain ⟨a, b⟩ := words_text h
  have : readC (textA A) = 0 := by unfold readC; rw [a, b, fault_of_right h]; rfl
  refine ⟨this, ?_⟩
  unfold readA
  rw [if_pos this, b]
end Go.Proofs.YtbfdgflbflajdaaGreatDoor

namespace Go.Proofs.YtbfdgflbflajdaaGreatDoor
open Go.RowKit

def aBytesL (l : List UInt8) : ByteArray := ⟨l.toArray⟩
theorem aIdx_hit (c : UInt8) : ∀ (x r : List UInt8), c ∉ x → Lib.index (x ++ c :: r) [c] = x.length
  | [], r, _ => by simp [Lib.index]
  | b :: x, r, h => by
    have hb : ¬ c = b := fun e => h (by simp [e])
    have ih := aIdx_hit c x r (fun hm => h (List.mem_cons_of_mem _ hm))
    simp only [List.cons_append, Lib.index, ih]
    have h1 : ([c] : List UInt8).isPrefixOf (b :: (x ++ c :: r)) = false := by simp [List.isPrefixOf, hb]
    rw [h1]
    have h2 : ((x.length : Int) == -1) = false := by rw [beq_eq_false_iff_ne]; omega
    rw [h2]
    simp
theorem aIdx_none (c : UInt8) : ∀ (x : List UInt8), c ∉ x → Lib.index x [c] = -1
  | [], _ => by simp [Lib.index]
  | b :: x, h => by
    have hb : ¬ c = b := fun e => h (by simp [e])
    have ih := aIdx_none c x (fun hm => h (List.mem_cons_of_mem _ hm))
    simp only [Lib.index, ih]
    have h1 : ([c] : List UInt8).isPrefixOf (b :: x) = false := by simp [List.isPrefixOf, hb]
    rw [h1]
    simp
theorem aFirst_at (c : UInt8) (l : List UInt8) : c ∉ l ∨ ∃ a b, l = a ++ c :: b ∧ c ∉ a := by
  induction l with
  | nil => exact Or.inl (by simp)
  | cons x r ih =>
    by_cases h : x = c
    · exact Or.inr ⟨[], r, by simp [h], by simp⟩
    · rcases ih with h2 | ⟨a, b, rfl, h2⟩
      · exact Or.inl (by simp [Ne.symm (show x ≠ c from h), h2])
      · exact Or.inr ⟨x :: a, b, by simp, by simp [Ne.symm (show x ≠ c from h), h2]⟩
theorem behind_hit (c : UInt8) (x r : List UInt8) : (aBytesL (x ++ c :: r)).extract (x.length + (⟨#[c]⟩ : ByteArray).size) (aBytesL (x ++ c :: r)).size = aBytesL r := by
  apply ByteArray.ext
  simp only [ByteArray.data_extract]
  apply Array.ext'
  simp [ByteArray.size, aBytesL]
  exact List.take_of_length_le (by omega)
theorem aSplitB_hit' (c : UInt8) (k : Nat) (x r : List UInt8) (h : c ∉ x) : Lib.splitB ⟨#[c]⟩ 0 (k + 1) (aBytesL (x ++ c :: r)) = aBytesL x :: Lib.splitB ⟨#[c]⟩ 0 k (aBytesL r) := by
  have hi : Lib.indexB (aBytesL (x ++ c :: r)) ⟨#[c]⟩ = (x.length : Int) := aIdx_hit c x r h
  rw [Lib.splitB_hit _ _ _ _ x.length hi, behind_hit]
  congr 1
  apply ByteArray.ext; simp [ByteArray.data_extract, aBytesL]
theorem aSplitB_last (c : UInt8) (k : Nat) (x : List UInt8) (h : c ∉ x) : Lib.splitB ⟨#[c]⟩ 0 k (aBytesL x) = [aBytesL x] :=
  Lib.splitB_miss _ _ _ _ (aIdx_none c x h)
theorem aSplit_parts (c : UInt8) : ∀ (k : Nat) (l : List UInt8), (Lib.splitB ⟨#[c]⟩ 0 k (aBytesL l) = (parts c [] l).map aBytesL ∧ (parts c [] l).length ≤ k + 1) ∨ ((Lib.splitB ⟨#[c]⟩ 0 k (aBytesL l)).length = k + 1 ∧ k + 1 < (parts c [] l).length)
  | 0, l => by
    rcases aFirst_at c l with h | ⟨a, b, rfl, h⟩
    · left; rw [aParts_miss c [] l h]; simp [Lib.splitB]
    · right
      rw [aParts_hit c [] a b h]
      have := (parts_length c [] b).1
      simp [Lib.splitB]; omega
  | k + 1, l => by
    rcases aFirst_at c l with h | ⟨a, b, rfl, h⟩
    · left
      rw [aParts_miss c [] l h]
      refine ⟨?_, by simp⟩
      have := aSplitB_last c (k + 1) l h
      simpa using this
    · rw [aParts_hit c [] a b h, aSplitB_hit' c k a b h]
      rcases aSplit_parts c k b with ⟨e1, e2⟩ | ⟨e1, e2⟩
      · left
        refine ⟨?_, by simp; omega⟩
        rw [e1]; simp
      · right
        refine ⟨?_, by simp; omega⟩
        simp [e1]
theorem count_parts (c : UInt8) : ∀ (n : Nat) (l : List UInt8), l.length ≤ n → Lib.countB (aBytesL l) ⟨#[c]⟩ + 1 = (parts c [] l).length
  | n, l, hn => by
    rcases aFirst_at c l with h | ⟨a, b, rfl, h⟩
    · rw [aParts_miss c [] l h, Lib.countB_miss _ _ (aIdx_none c l h)]; simp
    · cases n with
      | zero => simp at hn
      | succ n =>
        have hi : Lib.indexB (aBytesL (a ++ c :: b)) ⟨#[c]⟩ = (a.length : Int) := aIdx_hit c a b h
        rw [aParts_hit c [] a b h, Lib.countB_hit (aBytesL (a ++ c :: b)) ⟨#[c]⟩ a.length (Nat.le_refl 1) hi, behind_hit]
        have := count_parts c n b (by simp at hn; omega)
        simp; omega
/-- all words. -/
theorem split_all (c : UInt8) (l : List UInt8) : Lib.splitB ⟨#[c]⟩ 0 (Lib.countB (aBytesL l) ⟨#[c]⟩) (aBytesL l) = (parts c [] l).map aBytesL ∧ Lib.countB (aBytesL l) ⟨#[c]⟩ + 1 = (parts c [] l).length := by
  have h := count_parts c l.length l (Nat.le_refl _)
  refine ⟨?_, h⟩
  rcases aSplit_parts c (Lib.countB (aBytesL l) ⟨#[c]⟩) l with ⟨e, -⟩ | ⟨-, e⟩
  · exact e
  · omega
/-- six words at most: all of them, or not five. -/
theorem split_six (c : UInt8) (l : List UInt8) : (Lib.splitB ⟨#[c]⟩ 0 (min 6 (l.length + 1) - 1) (aBytesL l) = (parts c [] l).map aBytesL) ∨ ((Lib.splitB ⟨#[c]⟩ 0 (min 6 (l.length + 1) - 1) (aBytesL l)).length ≠ 5 ∧ (parts c [] l).length ≠ 5) := by
  rcases aSplit_parts c (min 6 (l.length + 1) - 1) l with ⟨e, -⟩ | ⟨e1, e2⟩
  · exact .inl e
  · have := (parts_length c [] l).2
    right
    rw [e1]
    omega
theorem words_five (L : List (List UInt8)) (h : L.length ≠ 5) : wordsOk L = false := by
  match L, h with
  | [], _ => rfl
  | [_], _ => rfl
  | [_, _], _ => rfl
  | [_, _, _], _ => rfl
  | [_, _, _, _], _ => rfl
  | [_, _, _, _, _], h => exact absurd rfl h
  | _ :: _ :: _ :: _ :: _ :: _ :: _, _ => rfl
theorem five_words (L : List (List UInt8)) (h : L.length = 5) : ∃ a b c d e, L = [a, b, c, d, e] := by
  match L, h with
  | [a, b, c, d, e], _ => exact ⟨a, b, c, d, e, rfl⟩
end Go.Proofs.YtbfdgflbflajdaaGreatDoor
