/-
  Decimal digits: plain mathematics.
  The document's answer, chapter 1 (herepathref1): Byte, below, Decimal, AddrText, PrefixText: what each returns.
  The document's answer, chapter 1 (herepathref1): NumberOf: what it returns at every text.
  The document's answer (herepathref1): Cut: a text cut at each byte of a kind: what it returns, at every text shorter than 2 to the 32 bytes.
  The document's NumbersOf: the numbers of words.
  A copy of an attribute of its own (herepathlaw1.OwnAttr).
-/
import Derived.Test.YtnifhaopjhgmnaaDoorGB
import Derived.Lib.ItoaNum
import Derived.Lib.ItoaLen
import Derived.Lib.SlBytesRow
import Derived.Laws.AppendOwnNone
import Derived.Laws.OwnMore
namespace Go.Proofs.YtnifhaopjhgmnaaDoor
open Go.RowKit

def digB (c : UInt8) : Bool := decide (48 ≤ (c.toNat : Int) ∧ (c.toNat : Int) ≤ 57)
def valD (l : List UInt8) : Int := l.foldl (fun n c => n * 10 + ((c.toNat : Int) - 48)) 0
/-- Are these the decimal digits of a number, nine at most, no needless zero? -/
def okNum (l : List UInt8) : Bool := decide (1 ≤ l.length) && decide (l.length ≤ 9) && !(l.head? == some 48 && decide (1 < l.length)) && l.all digB
def numOf (l : List UInt8) : Int := if okNum l = true then valD l else 0

theorem valD_snoc (l : List UInt8) (c : UInt8) : valD (l ++ [c]) = valD l * 10 + ((c.toNat : Int) - 48) := by simp [valD]
theorem valD_lt : ∀ (k : Nat) (l : List UInt8), l.length = k → l.all digB = true → 0 ≤ valD l ∧ valD l < 10 ^ k
  | 0, l, h, _ => by
    have : l = [] := List.length_eq_zero_iff.1 h
    subst this; simp [valD]
  | k + 1, l, h, hd => by
    obtain ⟨l', c, rfl⟩ : ∃ l' c, l = l' ++ [c] := ⟨l.dropLast, l.getLast (by intro e; subst e; simp at h), (List.dropLast_concat_getLast _).symm⟩
    rw [List.all_append, Bool.and_eq_true] at hd
    have hc : digB c = true := by simpa using hd.2
    obtain ⟨h1, h2⟩ := valD_lt k l' (by simpa using h) hd.1
    rw [valD_snoc]
    unfold digB at hc
    have hc' := of_decide_eq_true hc
    rw [Int.pow_succ]
    omega
theorem valD_le (l : List UInt8) (h : l.length ≤ 9) (hd : l.all digB = true) : 0 ≤ valD l ∧ valD l ≤ 999999999 := by
  obtain ⟨h1, h2⟩ := valD_lt _ l rfl hd
  have : (10 : Int) ^ l.length ≤ 10 ^ 9 := by
    have := Nat.pow_le_pow_right (n := 10) (by decide) h
    exact_mod_cast this
  refine ⟨h1, ?_⟩
  omega
theorem valD_le8 (l : List UInt8) (h : l.length ≤ 8) (hd : l.all digB = true) : 0 ≤ valD l ∧ valD l ≤ 99999999 := by
  obtain ⟨h1, h2⟩ := valD_lt _ l rfl hd
  have : (10 : Int) ^ l.length ≤ 10 ^ 8 := by
    have := Nat.pow_le_pow_right (n := 10) (by decide) h
    exact_mod_cast this
  refine ⟨h1, ?_⟩
  omega
theorem take_snoc (s : ByteArray) (k : Nat) (h : k < s.size) : s.data.toList.take (k + 1) = s.data.toList.take k ++ [s[k]] := by
  rw [List.take_succ_eq_append_getElem (by simpa using h)]; rfl

theorem len_data (s : ByteArray) : s.data.toList.length = s.size := Array.length_toList
theorem okNum_short (l : List UInt8) (h : l.length = 0) : okNum l = false := by
  have : l = [] := List.length_eq_zero_iff.1 h
  subst this; rfl
theorem okNum_long (l : List UInt8) (h : ¬ l.length ≤ 9) : okNum l = false := by unfold okNum; rw [decide_eq_false h]; simp
theorem okNum_zero (l : List UInt8) (h : l.head? = some 48) (h1 : 1 < l.length) : okNum l = false := by unfold okNum; rw [h, decide_eq_true h1]; simp
theorem okNum_not (l : List UInt8) (h : l.all digB = false) : okNum l = false := by unfold okNum; rw [h]; simp
theorem okNum_yes (l : List UInt8) (h1 : 1 ≤ l.length) (h2 : l.length ≤ 9) (h3 : ¬ (l.head? = some 48 ∧ 1 < l.length)) (h4 : l.all digB = true) : okNum l = true := by
  unfold okNum
  rw [decide_eq_true h1, decide_eq_true h2, h4]
  by_cases h5 : l.head? = some 48
  · have : ¬ 1 < l.length := fun h => h3 ⟨h5, h⟩
    simp [this]
  · have : (l.head? == some 48) = false := by simpa using h5
    simp [this]
theorem numOf_not {l : List UInt8} (h : okNum l = false) : numOf l = 0 := by simp [numOf, h]
theorem numOf_yes {l : List UInt8} (h : okNum l = true) : numOf l = valD l := by simp [numOf, h]
theorem isEmpty_of (s : ByteArray) (h : s.size = 0) : s.toList.isEmpty = true := by
  rw [ByteArray.toList_eq, List.isEmpty_iff, ← List.length_eq_zero_iff, len_data]; exact h
theorem isEmpty_not (s : ByteArray) (h : 1 ≤ s.size) : s.toList.isEmpty = false := by
  rw [ByteArray.toList_eq]
  cases hl : s.data.toList with
  | nil => have := len_data s; rw [hl] at this; simp at this; omega
  | cons _ _ => rfl
theorem head_data (s : ByteArray) (h : 0 < s.size) : s.data.toList.head? = some s[0] := by
  cases hl : s.data.toList with
  | nil => have := len_data s; rw [hl] at this; simp at this; omega
  | cons c r =>
    have : s[0] = s.data.toList[0]'(by rw [len_data]; exact h) := rfl
    rw [this]
    simp [hl]

theorem okNum_bad (s : ByteArray) (k : Nat) (h : k < s.size) (hd : (s[k].toNat : Int) < 48 ∨ 57 < (s[k].toNat : Int)) : okNum s.data.toList = false := by
  apply okNum_not
  rw [List.all_eq_false]
  refine ⟨s[k], ?_, ?_⟩
  · exact List.getElem_mem (l := s.data.toList) (by rw [len_data]; exact h)
  · simp only [digB, decide_eq_true_eq]; omega
theorem digB_yes (c : UInt8) (h : 48 ≤ (c.toNat : Int) ∧ (c.toNat : Int) ≤ 57) : [c].all digB = true := by
  simp [digB]; omega

end Go.Proofs.YtnifhaopjhgmnaaDoor

namespace Go.Proofs.YtnifhaopjhgmnaaDoor
open Go.RowKit
theorem decDigits_len (u : Nat) (h : u < 18446744073709551616) : (Lib.decDigits u).length ≤ 20 := by rw [Lib.decDigits_length]; exact Lib.nDigits_le20 u h
theorem decDigits_more (u : Nat) (h : ¬ u < 10) : Lib.decDigits u = Lib.decDigits (u / 10) ++ [UInt8.ofNat (48 + u % 10)] := by rw [Lib.decDigits, dif_neg h]

end Go.Proofs.YtnifhaopjhgmnaaDoor

namespace Go.Proofs.YtnifhaopjhgmnaaDoor
open Go.RowKit

def numR (l : List UInt8) : Int := if okNum l = true then valD l else -1
theorem numR_not {l : List UInt8} (h : okNum l = false) : numR l = -1 := by simp [numR, h]
theorem numR_yes {l : List UInt8} (h : okNum l = true) : numR l = valD l := by simp [numR, h]

end Go.Proofs.YtnifhaopjhgmnaaDoor

namespace Go.Proofs.YtnifhaopjhgmnaaDoor
open Go.RowKit

/-- The words of a text between bytes c; cur: what the first one has already. -/
def parts (c : UInt8) : List UInt8 → List UInt8 → List (List UInt8)
  | cur, [] => [cur]
  | cur, x :: r => if x = c then cur :: parts c [] r else parts c (cur ++ [x]) r
def strV (l : List UInt8) : Value := .string ⟨l.toArray⟩
theorem parts_length (c : UInt8) (cur r : List UInt8) : 1 ≤ (parts c cur r).length ∧ (parts c cur r).length ≤ r.length + 1 := by
  induction r generalizing cur with
  | nil => simp [parts]
  | cons x r ih =>
    unfold parts
    split
    · have := ih []; simp only [List.length_cons]; omega
    · have := ih (cur ++ [x]); simp only [List.length_cons]; omega
theorem infoS : (Tryd.prog.info? 9).map (fun i => (i.zero, i.size, i.bytes)) = some (some (.string ⟨#[]⟩), 1, 16) := by kernel_rfl
theorem extract_list (s : ByteArray) (a b : Nat) : s.extract a b = ⟨((s.data.toList.drop a).take (b - a)).toArray⟩ := by
  apply ByteArray.ext
  apply Array.toList_inj.1
  rw [Lib.extract_data]
/-- the loop's state: the words done, the word at hand from f on, k read. -/
structure CutAt (l : List UInt8) (c : UInt8) (k f : Nat) (done : List (List UInt8)) : Prop where
  hk : k ≤ l.length
  hf : f ≤ k
  hd : done.length ≤ k
  eq : parts c [] l = done ++ parts c ((l.drop f).take (k - f)) (l.drop k)
theorem cutAt_start (l : List UInt8) (c : UInt8) : CutAt l c 0 0 [] := ⟨by simp, by simp, by simp, by simp⟩
theorem CutAt.hit {l : List UInt8} {c : UInt8} {k f : Nat} {done : List (List UInt8)} (h : CutAt l c k f done) (hk : k < l.length) (hc : l[k] = c) : CutAt l c (k + 1) (k + 1) (done ++ [(l.drop f).take (k - f)]) := by
  refine ⟨hk, Nat.le_refl _, by have := h.hd; simp; omega, ?_⟩
  rw [h.eq, List.drop_eq_getElem_cons hk]
  show done ++ parts c _ (l[k] :: l.drop (k + 1)) = _
  conv => lhs; unfold parts
  rw [if_pos hc]
  simp
theorem CutAt.miss {l : List UInt8} {c : UInt8} {k f : Nat} {done : List (List UInt8)} (h : CutAt l c k f done) (hk : k < l.length) (hc : ¬ l[k] = c) : CutAt l c (k + 1) f done := by
  have hf := h.hf
  refine ⟨hk, by omega, by have := h.hd; omega, ?_⟩
  rw [h.eq, List.drop_eq_getElem_cons hk]
  show done ++ parts c _ (l[k] :: l.drop (k + 1)) = _
  conv => lhs; unfold parts
  rw [if_neg hc]
  congr 2
  rw [show k + 1 - f = (k - f) + 1 by omega, List.take_succ_eq_append_getElem (by rw [List.length_drop]; omega)]
  congr 2
  rw [List.getElem_drop]
  congr 1
  omega
theorem CutAt.over {l : List UInt8} {c : UInt8} {f : Nat} {done : List (List UInt8)} (h : CutAt l c l.length f done) : parts c [] l = done ++ [l.drop f] := by
  rw [h.eq, List.drop_length]
  have hf := h.hf
  simp only [parts]
  rw [List.take_of_length_le (by rw [List.length_drop]; omega)]
theorem rel_cut {B : Nat} {w wr w1 : World} {v v' : Value} {o : Obj} {done : List (List UInt8)} {x : List UInt8} (hB : B ≤ wr.heap.size)
    (hown : wr.ownsRow B 9 1 v done.length (done.map strV)) (hnx : Below B w wr)
    (hown' : w1.ownsRow B 9 1 v' (done.length + 1) (done.map strV ++ [strV x])) (hgrow : (wr.alloc o).grownBy w1 v.ownBlock) :
    w1.ownsRow B 9 1 v' (done ++ [x]).length ((done ++ [x]).map strV) ∧ Below B w w1 :=
  ⟨by simpa using hown', (hnx.alloc hB o).grown hgrow (by simp; omega) (fun j hj => (hown.lt j hj).1)⟩

end Go.Proofs.YtnifhaopjhgmnaaDoor

namespace Go.Proofs.YtnifhaopjhgmnaaDoor
open Go.RowKit

/-- what a slice at p holds: texts. -/
def Strs (w : World) (p : Option Addr) (L : List (List UInt8)) : Prop :=
  ∀ i (h : i < L.length), ∃ b o, p = some ⟨b, o, none⟩ ∧ w.cell? ⟨b, o + i, none⟩ = some (strV L[i])
theorem Strs.below {w w' : World} {p : Option Addr} {L : List (List UInt8)} (h : Strs w p L) (hb : Below w.heap.size w w') : Strs w' p L := fun i hi => by
  obtain ⟨b, o, e, c⟩ := h i hi
  exact ⟨b, o, e, cell_kept hb c⟩
def intV (x : Int) : Value := .int .i64 x
theorem own_ints {w : World} {B : Nat} {e : TypeId} {v : Value} {L : List Int} (h : w.ownsRow B e 1 v L.length (L.map intV)) : ∃ p cap, v = .slice p L.length cap ∧ L.length ≤ cap ∧ cap ≤ maxLen ∧ Ints w p L := by
  rcases h.2 with ⟨hv, h0⟩ | ⟨g, cap, cur, hv, hb, hg, h1, h2, h3, h4⟩
  · have : L = [] := List.eq_nil_of_length_eq_zero h0
    subst this
    exact ⟨none, 0, hv, by simp, by simp, ints_nil _ _⟩
  · refine ⟨some ⟨g, 0, none⟩, cap, hv, h1, h2, fun i hi => ⟨g, 0, rfl, ?_⟩⟩
    subst hv
    rw [Nat.zero_add, h.cellAt _ (by omega)]
    simp [hi, intV]
theorem own_strs {w : World} {B : Nat} {e : TypeId} {v : Value} {L : List (List UInt8)} (h : w.ownsRow B e 1 v L.length (L.map strV)) : ∃ p cap, v = .slice p L.length cap ∧ L.length ≤ cap ∧ cap ≤ maxLen ∧ Strs w p L := by
  rcases h.2 with ⟨hv, h0⟩ | ⟨g, cap, cur, hv, hb, hg, h1, h2, h3, h4⟩
  · have : L = [] := List.eq_nil_of_length_eq_zero h0
    subst this
    exact ⟨none, 0, hv, by simp, by simp, fun i hi => by simp at hi⟩
  · refine ⟨some ⟨g, 0, none⟩, cap, hv, h1, h2, fun i hi => ⟨g, 0, rfl, ?_⟩⟩
    subst hv
    rw [Nat.zero_add, h.cellAt _ (by omega)]
    simp [hi]
theorem infoInt : (Tryd.prog.info? 3).map (fun i => (i.zero, i.size, i.bytes)) = some (some (.int .i64 0), 1, 8) := by kernel_rfl
theorem rel_int {B : Nat} {w wr w1 : World} {v v' : Value} {o : Obj} {done : List Int} {x : Int} (hB : B ≤ wr.heap.size)
    (hown : wr.ownsRow B 3 1 v done.length (done.map intV)) (hnx : Below B w wr)
    (hown' : w1.ownsRow B 3 1 v' (done.length + 1) (done.map intV ++ [intV x])) (hgrow : (wr.alloc o).grownBy w1 v.ownBlock) :
    w1.ownsRow B 3 1 v' (done ++ [x]).length ((done ++ [x]).map intV) ∧ Below B w w1 :=
  ⟨by simpa using hown', (hnx.alloc hB o).grown hgrow (by simp; omega) (fun j hj => (hown.lt j hj).1)⟩
/-- the words are numbers, all of them. -/
def allNum (L : List (List UInt8)) : Bool := L.all okNum
theorem numR_sign (l : List UInt8) : (okNum l = true ∧ 0 ≤ numR l) ∨ (okNum l = false ∧ numR l = -1) := by
  cases h : okNum l with
  | false => exact .inr ⟨rfl, numR_not h⟩
  | true => exact .inl ⟨rfl, by rw [numR_yes h]; exact (valD_lt _ l rfl (by unfold okNum at h; simp only [Bool.and_eq_true] at h; exact h.2)).1⟩

end Go.Proofs.YtnifhaopjhgmnaaDoor

namespace Go.Proofs.YtnifhaopjhgmnaaDoor
open Go.RowKit

/-- a slice's value as a program makes it: none of none, or one in a block. -/
def Kind1 (p : Option Addr) (n c : Nat) : Prop := (p = none ∧ n = 0 ∧ c = 0) ∨ ((∃ b o, p = some ⟨b, o, none⟩) ∧ n ≤ c ∧ c ≤ maxLen)
theorem ints_one (L : List Int) : ∀ u ∈ L.map intV, u.oneCell' = true := by
  intro u hu
  simp [intV] at hu
  obtain ⟨a, -, rfl⟩ := hu
  rfl
/-- all of a list of numbers behind a row's end. -/
theorem wp_addAll1 {P : Program} {W : World} {ops : Array Oper} {rest : List Oper} {o : Oper} {a : Act} {Q : Exit → Act → World → Prop} (hgd : o.guard = none) (s x : Operand) (t : TypeId)
    (ho : o.op = .call { callee := .builtin .append, args := #[s, x], argTypes := #[t, t] })
    (base : Nat) (e : TypeId) (i : TypeInfo) (ht : P.underlying t = some (.slice e)) (hi : P.info? e = some i) (hz : i.zero = some (.int .i64 0)) (hsize : i.size = 1) (hby : i.bytes = 8)
    (v : Value) (O : List Int) (hs : a.eval s = v) (hown : W.ownsRow base e 1 v O.length (O.map intV)) (p : Option Addr) (M : List Int) (n c : Nat) (hx : a.eval x = .slice p n c) (hn : M.length = n) (hk : Kind1 p n c) (hM : Ints W p M) (O' : List Int) (hO' : Hid (O ++ M = O'))
    (hO : O.length + M.length ≤ 1099511627776) (hbase : base ≤ W.heap.size)
    (h : ∀ v' w', w'.ownsRow base e 1 v' O'.length (O'.map intV) → Below base W w' → wpList P ops Q rest (a.put o.dst v') w') : wpList P ops Q (o :: rest) a W := by
  subst hn
  rcases hk with ⟨rfl, h0, rfl⟩ | ⟨⟨b0, o0, rfl⟩, -, -⟩
  · have hM0 : M = [] := List.eq_nil_of_length_eq_zero h0
    subst hM0
    rw [List.append_nil] at hO'
    have := hO'.out
    subst this
    exact wpList_append_own_none hgd s x t ho base e i 1 ht hi v O.length (O.map intV) hs hown hx (h v W hown (Below.refl _ _))
  · refine wpList_append_own _ hgd s x t ho base e i (.int .i64 0) 1 8 ht hi hz hsize hby rfl (by decide) v O.length (O.map intV) hs hown ⟨b0, o0, none⟩ M.length c (M.map intV) hx (by simp) ?_ (ints_one M) (by unfold maxLen; omega) (by omega) hbase ?_
    · intro j u hj
      have hjl : j < M.length := by
        have := (List.getElem?_eq_some_iff.1 hj).1
        simpa using this
      obtain ⟨b, o', e', c0⟩ := hM j hjl
      simp only [Option.some.injEq, Addr.mk.injEq, and_true] at e'
      obtain ⟨e1, e2⟩ := e'
      rw [← e1, ← e2] at c0
      have hadd : (⟨b0, o0, none⟩ : Addr).add j = ⟨b0, o0 + j, none⟩ := by
        unfold Addr.add
        split
        · rename_i h; subst h; rfl
        · rfl
      rw [hadd]
      simp [hjl, intV] at hj
      rw [← hj]
      exact c0
    · intro v' w1 hown' hgrow _
      rw [← hO'.out] at h
      refine h v' w1 ?_ ((Below.refl base W).grown hgrow hbase (fun j hj => (hown.lt j hj).1))
      rw [List.map_append, List.length_append]
      exact hown'

/-- a value that holds an attribute, its slices as a program makes them. -/
def AttrK (w : World) (v : Value) (A : At) : Prop :=
  ∃ p cp q cq, v = .agg #[.slice p A.path.length cp, .int .i64 A.pref, .int .i64 A.med, .int .i64 A.org, .slice q A.tags.length cq] ∧ Ints w p A.path ∧ Ints w q A.tags ∧ Kind1 p A.path.length cp ∧ Kind1 q A.tags.length cq
theorem AttrK.attr {w : World} {v : Value} {A : At} (h : AttrK w v A) : IsAttr w v A := by
  obtain ⟨p, cp, q, cq, e, h1, h2, -, -⟩ := h
  exact ⟨p, cp, q, cq, e, h1, h2⟩
theorem AttrK.below {w w' : World} {v : Value} {A : At} (h : AttrK w v A) (hb : Below w.heap.size w w') : AttrK w' v A := by
  obtain ⟨p, cp, q, cq, e, h1, h2, h3, h4⟩ := h
  exact ⟨p, cp, q, cq, e, h1.below hb, h2.below hb, h3, h4⟩
theorem aOwn_kind {w : World} {B : Nat} {e : TypeId} {v : Value} {L : List Int} (h : w.ownsRow B e 1 v L.length (L.map intV)) : ∃ p cap, v = .slice p L.length cap ∧ Kind1 p L.length cap ∧ Ints w p L := by
  obtain ⟨p, cap, e1, l1, l2, hi⟩ := own_ints h
  rcases h.2 with ⟨hv, h0⟩ | ⟨g, cap', cur, hv, -⟩
  · refine ⟨p, cap, e1, .inl ?_, hi⟩
    rw [e1] at hv
    simp only [Value.slice.injEq] at hv
    exact ⟨hv.1, hv.2.1, hv.2.2⟩
  · refine ⟨p, cap, e1, .inr ⟨?_, l1, l2⟩, hi⟩
    rw [e1] at hv
    simp only [Value.slice.injEq] at hv
    exact ⟨_, _, hv.1⟩

theorem own_kind' {w : World} {B : Nat} {e : TypeId} {v : Value} {L : List Int} (h : w.ownsRow B e 1 v L.length (L.map intV)) : ∃ p cap, v = .slice p L.length cap ∧ Kind1 p L.length cap ∧ Ints w p L ∧ ∀ b o, p = some ⟨b, o, none⟩ → B ≤ b := by
  obtain ⟨p, cap, e1, hk, hi⟩ := aOwn_kind h
  refine ⟨p, cap, e1, hk, hi, fun b o e2 => ?_⟩
  subst e1 e2
  rcases h.2 with ⟨hv, h0⟩ | ⟨g, cap', cur, hv, hb, -⟩
  · simp at hv
  · simp only [Value.slice.injEq, Option.some.injEq, Addr.mk.injEq] at hv
    obtain ⟨⟨rfl, -⟩, -⟩ := hv
    exact hb
theorem Ints.set {w : World} {p : Option Addr} {L : List Int} (h : Ints w p L) {B : Nat} (hne : ∀ b o, p = some ⟨b, o, none⟩ → B < b) (k : Nat) (u : Value) : Ints (w.setCell ⟨B, k, none⟩ u) p L := fun i hi => by
  obtain ⟨b, o, e, c⟩ := h i hi
  have := hne b o e
  exact ⟨b, o, e, by rw [World.cell?_setCell_other _ _ _ _ (by intro he; simp at he <;> omega)]; exact c⟩
/-- two attributes' places: the argument's copy and the answer. -/
def AX (w wr : World) (B : Nat) (va vr : Array Value) : Prop :=
  wr.heap[B]? = some (.cells va 27 (0, 0)) ∧ wr.heap[B + 1]? = some (.cells vr 27 (0, 0)) ∧ Below B w wr
theorem AX.on {w wr w' : World} {B : Nat} {va vr : Array Value} (h : AX w wr B va vr) (hb : Below wr.heap.size wr w') : AX w w' B va vr := by
  obtain ⟨a, b, c⟩ := h
  have l1 := (Array.getElem?_eq_some_iff.1 a).1
  have l2 := (Array.getElem?_eq_some_iff.1 b).1
  exact ⟨by rw [hb.block B l1]; exact a, by rw [hb.block (B + 1) l2]; exact b, c.trans (hb.mono (Nat.le_of_lt l1))⟩
theorem ax_start (w : World) (va vr : Array Value) : AX w ((w.alloc (.cells va 27)).alloc (.cells vr 27)) w.heap.size va vr := by
  have a : (w.alloc (.cells va 27)).heap[w.heap.size]? = some (.cells va 27 (0, 0)) := Go.heap_alloc_new w _
  have l1 := (Array.getElem?_eq_some_iff.1 a).1
  have b := Go.heap_alloc_new (w.alloc (.cells va 27)) (.cells vr 27)
  have hs : (w.alloc (.cells va 27)).heap.size = w.heap.size + 1 := by simp
  rw [hs] at b
  exact ⟨by rw [(below_alloc (w.alloc (.cells va 27)) _).block _ l1]; exact a, b, below_two _ _ _⟩
theorem AX.set {w wr : World} {B : Nat} {va vr : Array Value} (h : AX w wr B va vr) (k : Nat) (u : Value) : AX w (wr.setCell ⟨B, k, none⟩ u) B (va.setIfInBounds k u) vr :=
  ⟨heap_setCell_same wr B k va _ u h.1, by rw [Below.heap_setCell _ _ _ _ (by simp)]; exact h.2.1, h.2.2.setCell (Nat.le_refl _) _⟩
theorem AX.arg {w wr : World} {B : Nat} {a b c d e : Value} {vr : Array Value} (h : AX w wr B #[a, b, c, d, e] vr) : wr.cell? ⟨B, 0, none⟩ = some a ∧ wr.cell? ⟨B, 1, none⟩ = some b ∧ wr.cell? ⟨B, 2, none⟩ = some c ∧ wr.cell? ⟨B, 3, none⟩ = some d ∧ wr.cell? ⟨B, 4, none⟩ = some e := by
  refine ⟨?_, ?_, ?_, ?_, ?_⟩ <;> simp [World.cell?, h.1]
theorem AX.res {w wr : World} {B : Nat} {a b c d e : Value} {va : Array Value} (h : AX w wr B va #[a, b, c, d, e]) : wr.cell? ⟨B + 1, 0, none⟩ = some a ∧ wr.cell? ⟨B + 1, 1, none⟩ = some b ∧ wr.cell? ⟨B + 1, 2, none⟩ = some c ∧ wr.cell? ⟨B + 1, 3, none⟩ = some d ∧ wr.cell? ⟨B + 1, 4, none⟩ = some e := by
  refine ⟨?_, ?_, ?_, ?_, ?_⟩ <;> simp [World.cell?, h.2.1]
theorem AX.soft {w wr : World} {B : Nat} {va vr : Array Value} (h : AX w wr B va vr) (k : Nat) : wr.frozen? ⟨B, k, none⟩ = false ∧ wr.frozen? ⟨B + 1, k, none⟩ = false := by
  constructor <;> simp [World.frozen?, h.1, h.2.1]

/-- an attribute whose lists lie from block N on. -/
def AttrF (w : World) (v : Value) (A : At) (N : Nat) : Prop :=
  ∃ p cp q cq, v = .agg #[.slice p A.path.length cp, .int .i64 A.pref, .int .i64 A.med, .int .i64 A.org, .slice q A.tags.length cq] ∧ Ints w p A.path ∧ Ints w q A.tags ∧ Kind1 p A.path.length cp ∧ Kind1 q A.tags.length cq ∧ (∀ b o, p = some ⟨b, o, none⟩ → N ≤ b) ∧ (∀ b o, q = some ⟨b, o, none⟩ → N ≤ b)
theorem AttrF.attrK {w : World} {v : Value} {A : At} {N : Nat} (h : AttrF w v A N) : AttrK w v A := by
  obtain ⟨p, cp, q, cq, e, h1, h2, h3, h4, -, -⟩ := h
  exact ⟨p, cp, q, cq, e, h1, h2, h3, h4⟩
end Go.Proofs.YtnifhaopjhgmnaaDoor
