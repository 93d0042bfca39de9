/-
  Decimal digits: plain mathematics.
  The document's answer, chapter 1 (herepathref1): Byte, below, Decimal, AddrText, PrefixText: what each returns.
  The document's answer, chapter 1 (herepathref1): NumberOf: what it returns at every text.
  The document's answer (herepathref1): Cut: a text cut at each byte of a kind: what it returns, at every text shorter than 2 to the 32 bytes.
  The document's NumbersOf: the numbers of words.
  A copy of an attribute of its own (herepathlaw1.OwnAttr).
-/
import Derived.Test.YtbfdgflbflajdaaGreatDoorGB
import Derived.Lib.ItoaNum
import Derived.Lib.ItoaLen
import Derived.Lib.SlBytesRow
import Derived.Laws.AppendOwnNone
import Derived.Laws.OwnMore
namespace Go.Proofs.YtbfdgflbflajdaaGreatDoor
open Go.RowKit

def digB (c : UInt8) : Bool := decide (48 ≤ (c.toNat : Int) ∧ (c.toNat : Int) ≤ 57)
def valD (l : List UInt8) : Int := l.foldl (fun n c => n * 10 + ((c.toNat : Int) - 48)) 0
/-- Are these the decimal digits of a number, nine at most, no needless zero? -/
def okNum (l : List UInt8) : Bool := decide (1 ≤ l.length) && decide (l.length ≤ 9) && !(l.head? == some 48 && decide (1 < l.length)) && l.all digB
def numOf (l : List UInt8) : Int := if okNum l = true then valD l else 0

theorem valD_snoc (l : List UInt8) (c : UInt8) : valD (l ++ [c]) = valD l * 10 + ((c.toNat : Int) - 48) := by simp [valD]
theorem valD_lt : ∀ (k : Nat) (l : List UInt8), l.length = k → l.all digB = true → 0 ≤ valD l ∧ valD l < 10 ^ k
  | 0, l, h, _ => by
    have : l = [] := List.length_eq_zero_iff.1 h
    subst this; simp [valD]
  | k + 1, l, h, hd => by
    obtain ⟨l', c, rfl⟩ : ∃ l' c, l = l' ++ [c] := ⟨l.dropLast, l.getLast (by intro e; subst e; simp at h), (List.dropLast_concat_getLast _).symm⟩
    rw [List.all_append, Bool.and_eq_true] at hd
    have hc : digB c = true := by simpa using hd.2
    obtain ⟨h1, h2⟩ := valD_lt k l' (by simpa using h) hd.1
    rw [valD_snoc]
    unfold digB at hc
    have hc' := of_decide_eq_true hc
    rw [Int.pow_succ]
    omega
theorem valD_le (l : List UInt8) (h : l.length ≤ 9) (hd : l.all digB = true) : 0 ≤ valD l ∧ valD l ≤ 999999999 := by
  obtain ⟨h1, h2⟩ := valD_lt _ l rfl hd
  have : (10 : Int) ^ l.length ≤ 10 ^ 9 := by
    have := Nat.pow_le_pow_right (n := 10) (by decide) h
    exact_mod_cast this
  refine ⟨h1, ?_⟩
  omega
theorem valD_le8 (l : List UInt8) (h : l.length ≤ 8) (hd : l.all digB = true) : 0 ≤ valD l ∧ valD l ≤ 99999999 := by
  obtain ⟨h1, h2⟩ := valD_lt _ l rfl hd
  have : (10 : Int) ^ l.length ≤ 10 ^ 8 := by
    have := Nat.pow_le_pow_right (n := 10) (by decide) h
    exact_mod_cast this
  refine ⟨h1, ?_⟩
  omega
theorem take_snoc (s : ByteArray) (k : Nat) (h : k < s.size) : s.data.toList.take (k + 1) = s.data.toList.take k ++ [s[k]] := by
  rw [List.take_succ_eq_append_getElem (by simpa using h)]; rfl

theorem len_data (s : ByteArray) : s.data.toList.length = s.size := Array.length_toList
theorem okNum_short (l : List UInt8) (h : l.length = 0) : okNum l = false := by
  have : l = [] := List.length_eq_zero_iff.1 h
  subst this; rfl
theorem okNum_long (l : List UInt8) (h : ¬ l.length ≤ 9) : okNum l = false := by unfold okNum; rw [decide_eq_false h]; simp
theorem okNum_zero (l : List UInt8) (h : l.head? = some 48) (h1 : 1 < l.length) : okNum l = false := by unfold okNum; rw [h, decide_eq_true h1]; simp
theorem okNum_not (l : List UInt8) (h : l.all digB = false) : okNum l = false := by unfold okNum; rw [h]; simp
theorem okNum_yes (l : List UInt8) (h1 : 1 ≤ l.length) (h2 : l.length ≤ 9) (h3 : ¬ (l.head? = some 48 ∧ 1 < l.length)) (h4 : l.all digB = true) : okNum l = true := by
  unfold okNum
  rw [decide_eq_true h1, decide_eq_true h2, h4]
  by_cases h5 : l.head? = some 48
  · have : ¬ 1 < l.length := fun h => h3 ⟨h5, h⟩
    simp [this]
  · have : (l.head? == some 48) = false := by simpa using h5
    simp [this]
theorem numOf_not {l : List UInt8} (h : okNum l = false) : numOf l = 0 := by simp [numOf, h]
theorem numOf_yes {l : List UInt8} (h : okNum l = true) : numOf l = valD l := by simp [numOf, h]
theorem isEmpty_of (s : ByteArray) (h : s.size = 0) : s.toList.isEmpty = true := by
  rw [ByteArray.toList_eq, List.isEmpty_iff, ← List.length_eq_zero_iff, len_data]; exact h
theorem isEmpty_not (s : ByteArray) (h : 1 ≤ s.size) : s.toList.isEmpty = false := by
  rw [ByteArray.toList_eq]
  cases hl : s.data.toList with
  | nil => have := len_data s; rw [hl] at this; simp at this; omega
  | cons _ _ => rfl
theorem head_data (s : ByteArray) (h : 0 < s.size) : s.data.toList.head? = some s[0] := by
  cases hl : s.data.toList with
  | nil => have := len_data s; rw [hl] at this; simp at this; omega
  | cons c r =>
    have : s[0] = s.data.toList[0]'(by rw [len_data]; exact h) := rfl
    rw [this]
    simp [hl]

theorem okNum_bad (s : ByteArray) (k : Nat) (h : k < s.size) (hd : (s[k].toNat : Int) < 48 ∨ 57 < (s[k].toNat : Int)) : okNum s.data.toList = false := by
  apply okNum_not
  rw [List.all_eq_false]
  refine ⟨s[k], ?_, ?_⟩
  · exact List.getElem_mem (l := s.data.toList) (by rw [len_data]; exact h)
  · simp only [digB, decide_eq_true_eq]; omega
theorem digB_yes (c : UInt8) (h : 48 ≤ (c.toNat : Int) ∧ (c.toNat : Int) ≤ 57) : [c].all digB = true := by
  simp [digB]; omega

end Go.Proofs.YtbfdgflbflajdaaGreatDoor

namespace Go.Proofs.YtbfdgflbflajdaaGreatDoor
open Go.RowKit

theorem byte_row (w : World) (n : Int) (h0 : 0 ≤ n) (h1 : n ≤ 255) :
    (convert 109 9 (.slice (some ⟨w.heap.size, 0, none⟩) 1 1)).run Tryz.prog (w.alloc (.cells #[.int .u8 n] 5)) = .ok (.string ⟨#[UInt8.ofNat n.toNat]⟩) (w.alloc (.cells #[.int .u8 n] 5)) := by
  have hn : (UInt8.ofNat n.toNat).toNat = n.toNat := by
    rw [UInt8.toNat_ofNat']
    omega
  have h := Lib.run_convert_whole (P := Tryz.prog) (w.alloc (.cells #[.int .u8 n] 5)) 109 5 9 Tryz.underlying109 Tryz.underlying5 Tryz.underlying9 w.heap.size 0 ⟨#[UInt8.ofNat n.toNat]⟩ (fun i hi => by
    have hi0 : i = 0 := by
      have : i < 1 := hi
      omega
    subst hi0
    rw [World.cell?_alloc_at _ _ _ _ rfl]
    show some (Value.int .u8 n) = some (.int .u8 ((UInt8.ofNat n.toNat).toNat : Int))
    rw [hn]
    congr 2
    omega) 1
  exact h
set_option maxRecDepth 100000 in
set_option maxHeartbeats 1000000 in
theorem rByte_any (n : Int) (h0 : 0 ≤ n) (h1 : n ≤ 255) (w : World) :
    Calls Tryz.prog 119 #[.int .i64 n] w fun e w' => e = .returned (.string ⟨#[UInt8.ofNat n.toNat]⟩) ∧ Below w.heap.size w w' := by
  have hw : IntKind.u8.wrap n = n := by rw [IntKind.wrap_u8]; omega
  have hq := byte_row w n h0 h1
  go_enter Tryz.func119, Tryz.ntmps119
  go_wp2
  go_ret
  exact ⟨rfl, below_alloc _ _⟩

theorem decDigits_len (u : Nat) (h : u < 18446744073709551616) : (Lib.decDigits u).length ≤ 20 := by rw [Lib.decDigits_length]; exact Lib.nDigits_le20 u h
theorem decDigits_more (u : Nat) (h : ¬ u < 10) : Lib.decDigits u = Lib.decDigits (u / 10) ++ [UInt8.ofNat (48 + u % 10)] := by rw [Lib.decDigits, dif_neg h]

theorem rByte_at (n : Int) (d : Nat) (c : UInt8) (hc : Hid (UInt8.ofNat (48 + d) = c)) (hn : n = 48 + (d : Int)) (hd : d < 10) (w : World) :
    Calls Tryz.prog 119 #[.int .i64 n] w fun e w' => e = .returned (.string ⟨#[c]⟩) ∧ Below w.heap.size w w' := by
  rw [← hc.out]
  have h := rByte_any n (by omega) (by omega) w
  rw [show n.toNat = 48 + d by omega] at h
  exact h

set_option maxRecDepth 100000 in
set_option maxHeartbeats 1000000 in
theorem rBelow_any : ∀ (u : Nat) (_ : (u : Int) ≤ 9223372036854775807) (n : Int) (_ : n = -(u : Int)) (w : World),
    Calls Tryz.prog 91 #[.int .i64 n] w fun e w' => e = .returned (.string ⟨(Lib.decDigits u).toArray⟩) ∧ Below w.heap.size w w' := by
  intro u
  induction u using Nat.strongRecOn with
  | _ u ih =>
    intro hu n hn w
    by_cases h : u < 10
    · obtain ⟨c, hc⟩ : ∃ c, Hid (UInt8.ofNat (48 + u) = c) := ⟨_, show _ = _ from rfl⟩
      rw [Lib.decDigits_one h, show UInt8.ofNat (48 + u) = c from hc.out]
      have hd : decide (-10 < n) = true := decide_eq_true (by omega)
      have hw : IntKind.i64.wrap (48 - n) = 48 - n := wrapi _ (by omega)
      have HN : Hid (48 - n = 48 + (u : Int)) := by show 48 - n = 48 + (u : Int); omega
      clear hn ih hu
      go_enter Tryz.func91, Tryz.ntmps91
      go_wp2_with fail
      refine (rByte_at _ u c hc HN.out h _).mono ?_
      rintro e w1 ⟨rfl, hb1⟩
      go_wp2_with fail
      go_ret
      exact ⟨rfl, hb1⟩
    · have hd : decide (-10 < n) = false := decide_eq_false (by omega)
      have h10 : ¬ -10 < n := by omega
      obtain ⟨q, hq⟩ : ∃ q, Hid (n.tdiv 10 = q) := ⟨_, show _ = _ from rfl⟩
      obtain ⟨r, hr⟩ : ∃ r, Hid (n.tmod 10 = r) := ⟨_, show _ = _ from rfl⟩
      have eq : q = -((u / 10 : Nat) : Int) := by
        rw [← hq.out, hn, Int.neg_tdiv, Int.tdiv_eq_ediv_of_nonneg (by omega)]; omega
      have er : r = -((u % 10 : Nat) : Int) := by
        rw [← hr.out, hn, Int.neg_tmod, Int.tmod_eq_emod_of_nonneg (by omega)]; omega
      have hw : IntKind.i64.wrap (48 - r) = 48 - r := wrapi _ (by omega)
      have hwq : IntKind.i64.wrap q = q := wrapi _ (by omega)
      have HR : Hid (48 - r = 48 + ((u % 10 : Nat) : Int)) := by show 48 - r = 48 + ((u % 10 : Nat) : Int); omega
      have EQ : Hid (q = -((u / 10 : Nat) : Int)) := eq
      have IH : Hid (∀ w, Calls Tryz.prog 91 #[.int .i64 q] w fun e w' => e = .returned (.string ⟨(Lib.decDigits (u / 10)).toArray⟩) ∧ Below w.heap.size w w') := fun w => ih (u / 10) (by omega) (by omega) q EQ.out w
      have q1 : n.tdiv 10 = q := hq.out
      have q2 : n.tmod 10 = r := hr.out
      have hlen := decDigits_len (u / 10) (by omega)
      obtain ⟨c, hc⟩ : ∃ c, Hid (UInt8.ofNat (48 + u % 10) = c) := ⟨_, show _ = _ from rfl⟩
      rw [decDigits_more u h, show UInt8.ofNat (48 + u % 10) = c from hc.out]
      obtain ⟨l1, e1⟩ : ∃ l, Hid (Lib.decDigits (u / 10) = l) := ⟨_, show _ = _ from rfl⟩
      obtain ⟨l2, e2⟩ : ∃ l, Hid (l1 ++ [c] = l) := ⟨_, show _ = _ from rfl⟩
      rw [show Lib.decDigits (u / 10) = l1 from e1.out] at hlen IH ⊢
      rw [show l1 ++ [c] = l2 from e2.out]
      have qa : ∀ w, (Op.stringOp .add ⟨l1.toArray⟩ ⟨#[c]⟩).run Tryz.prog w = .ok (.string ⟨l2.toArray⟩) w := fun w => by rw [← e2.out]; exact run_string_add_lists w l1 [c] (by omega) (by simp)
      clear hn ih hu eq er hlen
      go_enter Tryz.func91, Tryz.ntmps91
      go_wp2_with fail
      refine (IH.out _).mono ?_
      rintro e w1 ⟨rfl, hb1⟩
      go_wp2_with fail
      refine (rByte_at _ (u % 10) c hc HR.out (by omega) _).mono ?_
      rintro e w2 ⟨rfl, hb2⟩
      go_wp2_with fail
      go_ret
      exact ⟨rfl, hb1.trans (hb2.mono hb1.size)⟩
theorem rBelow_at (u : Nat) (n : Int) (l : List UInt8) (hl : Hid (Lib.decDigits u = l)) (hu : (u : Int) ≤ 9223372036854775807) (hn : n = -(u : Int)) (w : World) :
    Calls Tryz.prog 91 #[.int .i64 n] w fun e w' => e = .returned (.string ⟨l.toArray⟩) ∧ Below w.heap.size w w' := by
  rw [← hl.out]
  exact rBelow_any u hu n hn w
set_option maxRecDepth 100000 in
set_option maxHeartbeats 1000000 in
theorem rDecimal_any (n : Int) (h0 : -9223372036854775807 ≤ n) (h1 : n ≤ 9223372036854775807) (w : World) :
    Calls Tryz.prog 57 #[.int .i64 n] w fun e w' => e = .returned (.string ⟨(Lib.itoa n).toArray⟩) ∧ Below w.heap.size w w' := by
  by_cases h : n < 0
  · have hi : Lib.itoa n = 45 :: Lib.decDigits n.natAbs := by unfold Lib.itoa; rw [if_pos h]
    have hlen := decDigits_len n.natAbs (by omega)
    obtain ⟨l1, e1⟩ : ∃ l, Hid (Lib.decDigits n.natAbs = l) := ⟨_, show _ = _ from rfl⟩
    rw [hi, show Lib.decDigits n.natAbs = l1 from e1.out]
    rw [show Lib.decDigits n.natAbs = l1 from e1.out] at hlen
    obtain ⟨l2, e2⟩ : ∃ l, Hid (45 :: l1 = l) := ⟨_, show _ = _ from rfl⟩
    rw [show 45 :: l1 = l2 from e2.out]
    have qa : ∀ w, (Op.stringOp .add ⟨#[45]⟩ ⟨l1.toArray⟩).run Tryz.prog w = .ok (.string ⟨l2.toArray⟩) w := fun w => by rw [← e2.out]; exact run_string_add_lists w [45] l1 (by simp) (by omega)
    have HN : Hid (n = -(n.natAbs : Int)) := by show n = -(n.natAbs : Int); omega
    have HU : Hid ((n.natAbs : Int) ≤ 9223372036854775807) := by show (n.natAbs : Int) ≤ 9223372036854775807; omega
    clear hi hlen
    go_enter Tryz.func57, Tryz.ntmps57
    go_wp2_with fail
    refine (rBelow_at _ n l1 e1 HU.out HN.out _).mono ?_
    rintro e w1 ⟨rfl, hb1⟩
    go_wp2_with fail
    go_ret
    exact ⟨rfl, hb1⟩
  · have hi : Lib.itoa n = Lib.decDigits n.toNat := by unfold Lib.itoa; rw [if_neg h]
    obtain ⟨l1, e1⟩ : ∃ l, Hid (Lib.decDigits n.toNat = l) := ⟨_, show _ = _ from rfl⟩
    rw [hi, show Lib.decDigits n.toNat = l1 from e1.out]
    have hw : IntKind.i64.wrap (-n) = -n := wrapi _ (by omega)
    have HN : Hid (-n = -(n.toNat : Int)) := by show -n = -(n.toNat : Int); omega
    have HU : Hid ((n.toNat : Int) ≤ 9223372036854775807) := by show (n.toNat : Int) ≤ 9223372036854775807; omega
    clear hi
    go_enter Tryz.func57, Tryz.ntmps57
    go_wp2_with fail
    refine (rBelow_at _ (-n) l1 e1 HU.out HN.out _).mono ?_
    rintro e w1 ⟨rfl, hb1⟩
    go_wp2_with fail
    go_ret
    exact ⟨rfl, hb1⟩
theorem rDecimal_at (x n : Int) (l : List UInt8) (hx : Hid (x = n)) (hl : Hid (Lib.itoa n = l)) (h0 : 0 ≤ n) (h1 : n ≤ 1000) (w : World) :
    Calls Tryz.prog 57 #[.int .i64 x] w fun e w' => e = .returned (.string ⟨l.toArray⟩) ∧ Below w.heap.size w w' := by
  have := hx.out; subst this
  rw [← hl.out]
  exact rDecimal_any x (by omega) (by omega) w
end Go.Proofs.YtbfdgflbflajdaaGreatDoor

namespace Go.Proofs.YtbfdgflbflajdaaGreatDoor
open Go.RowKit

def numR (l : List UInt8) : Int := if okNum l = true then valD l else -1
theorem numR_not {l : List UInt8} (h : okNum l = false) : numR l = -1 := by simp [numR, h]
theorem numR_yes {l : List UInt8} (h : okNum l = true) : numR l = valD l := by simp [numR, h]

set_option linter.unusedVariables false in
set_option maxRecDepth 100000 in
set_option maxHeartbeats 2000000 in
theorem rNumberOf_any (s : ByteArray) (w : World) (hs : s.size ≤ maxLen) :
    Calls Tryz.prog 92 #[.string s] w fun e w' => e = .returned (.int .i64 (numR s.data.toList)) ∧ w' = w := by
  unfold maxLen at hs
  by_cases h0 : s.size = 0
  · have hok := okNum_short s.data.toList (by rw [len_data]; exact h0)
    rw [numR_not hok]; clear hok
    have hd : decide ((s.size : Int) < 1) = true := decide_eq_true (by omega)
    go_enter Tryz.func92, Tryz.ntmps92
    go_wp2
    go_ret
    exact ⟨rfl, rfl⟩
  have hpos : 1 ≤ s.size := by omega
  have hd0 : decide ((s.size : Int) < 1) = false := decide_eq_false (by omega)
  clear h0
  by_cases h9 : ¬ s.size ≤ 9
  · have hok := okNum_long s.data.toList (by rw [len_data]; exact h9)
    rw [numR_not hok]; clear hok
    have hd : decide (9 < (s.size : Int)) = true := decide_eq_true (by omega)
    go_enter Tryz.func92, Tryz.ntmps92
    go_wp2
    go_ret
    exact ⟨rfl, rfl⟩
  replace h9 : s.size ≤ 9 := by omega
  have hd9 : decide (9 < (s.size : Int)) = false := decide_eq_false (by omega)
  by_cases hz : s[0] = 48 ∧ 1 < s.size
  · have hok := okNum_zero s.data.toList (by rw [head_data s (by omega), hz.1]) (by rw [len_data]; exact hz.2)
    rw [numR_not hok]; clear hok
    have hz0 : ((s[0].toNat : Int) == 48) = true := by rw [hz.1]; rfl
    have hz1 := hz.2
    have hd1 : decide (1 < (s.size : Int)) = true := decide_eq_true (by omega)
    clear hz
    go_enter Tryz.func92, Tryz.ntmps92
    go_wp2
    go_ret
    exact ⟨rfl, rfl⟩
  have HZ : Hid (¬ (s[0] = 48 ∧ 1 < s.size)) := hz
  have hgo : (s.size ≤ 1 ∧ decide (1 < (s.size : Int)) = false) ∨ (decide (1 < (s.size : Int)) = true ∧ ((s[0].toNat : Int) == 48) = false) := by
    by_cases h : 1 < s.size
    · right
      refine ⟨decide_eq_true (by omega), ?_⟩
      rw [beq_eq_false_iff_ne]
      intro e
      exact hz ⟨UInt8.toNat_inj.1 (show s[0].toNat = 48 by omega), h⟩
    · exact Or.inl ⟨by omega, decide_eq_false (by omega)⟩
  clear hz
  rcases hgo with ⟨hz1, hz0⟩ | ⟨hz1, hz0⟩
  all_goals
    go_enter Tryz.func92, Tryz.ntmps92
    go_wp2
    go_loop [3, 4] (fun n i => ∃ k : Nat, k ≤ s.size ∧ i = .int .i64 k ∧ n = .int .i64 (valD (s.data.toList.take k)) ∧ (s.data.toList.take k).all digB = true) (fun _ i => s.size - (intOf i).toNat)
    case atStart => exact ⟨0, Nat.zero_le _, rfl, rfl, rfl⟩
    case round =>
      obtain ⟨k, hk, rfl, rfl, hdk⟩ := hrel
      have HD : Hid ((s.data.toList.take k).all digB = true) := hdk
      clear hdk
      by_cases hlt : k < s.size
      · have hv := valD_le8 (s.data.toList.take k) (by rw [List.length_take, len_data]; omega) HD.out
        obtain ⟨v, hvv⟩ : ∃ v, Hid (valD (s.data.toList.take k) = v) := ⟨_, show _ = _ from rfl⟩
        rw [hvv.out] at hv ⊢
        by_cases hdig : 48 ≤ (s[k].toNat : Int) ∧ (s[k].toNat : Int) ≤ 57
        · obtain ⟨g0, g1⟩ := hdig
          have hd1 : decide ((s[k].toNat : Int) < 48) = false := decide_eq_false (by omega)
          have hd2 : decide (57 < (s[k].toNat : Int)) = false := decide_eq_false (by omega)
          have hwu : IntKind.u8.wrap ((s[k].toNat : Int) - 48) = (s[k].toNat : Int) - 48 := by rw [IntKind.wrap_u8]; omega
          go_wp2
          go_round
          case rel => exact ⟨k + 1, by omega, by go_num, by rw [take_snoc s k hlt, valD_snoc, hvv.out, Int.mul_comm v 10], by rw [take_snoc s k hlt, List.all_append, HD.out, digB_yes s[k] ⟨g0, g1⟩]; rfl⟩
          case measure => simp [intOf]; omega
        · have HOK : Hid (okNum s.data.toList = false) := okNum_bad s k hlt (by omega)
          have hor : decide ((s[k].toNat : Int) < 48) = true ∨ (decide ((s[k].toNat : Int) < 48) = false ∧ decide (57 < (s[k].toNat : Int)) = true) := by
            by_cases h : (s[k].toNat : Int) < 48
            · exact Or.inl (decide_eq_true h)
            · exact Or.inr ⟨decide_eq_false h, decide_eq_true (by omega)⟩
          clear hdig
          rcases hor with h1 | ⟨h1, h2⟩
          · go_wp2
            go_ret
            rw [numR_not HOK.out]
            exact ⟨rfl, rfl⟩
          · go_wp2
            go_ret
            rw [numR_not HOK.out]
            exact ⟨rfl, rfl⟩
      · go_wp2
        go_ret
        have hkk : k = s.size := by omega
        have hall : s.data.toList.take k = s.data.toList := List.take_of_length_le (by rw [len_data]; omega)
        have hd := HD.out
        rw [hall] at hd
        have hok := okNum_yes s.data.toList (by rw [len_data]; omega) (by rw [len_data]; omega) (by rw [head_data s (by omega), len_data]; exact fun h => HZ.out ⟨Option.some.inj h.1, h.2⟩) hd
        rw [numR_yes hok]
        exact ⟨by rw [hall]; rfl, rfl⟩
end Go.Proofs.YtbfdgflbflajdaaGreatDoor

namespace Go.Proofs.YtbfdgflbflajdaaGreatDoor
open Go.RowKit

/-- The words of a text between bytes c; cur: what the first one has already. -/
def parts (c : UInt8) : List UInt8 → List UInt8 → List (List UInt8)
  | cur, [] => [cur]
  | cur, x :: r => if x = c then cur :: parts c [] r else parts c (cur ++ [x]) r
def strV (l : List UInt8) : Value := .string ⟨l.toArray⟩
theorem parts_length (c : UInt8) (cur r : List UInt8) : 1 ≤ (parts c cur r).length ∧ (parts c cur r).length ≤ r.length + 1 := by
  induction r generalizing cur with
  | nil => simp [parts]
  | cons x r ih =>
    unfold parts
    split
    · have := ih []; simp only [List.length_cons]; omega
    · have := ih (cur ++ [x]); simp only [List.length_cons]; omega
theorem infoS : (Tryz.prog.info? 9).map (fun i => (i.zero, i.size, i.bytes)) = some (some (.string ⟨#[]⟩), 1, 16) := by kernel_rfl
theorem extract_list (s : ByteArray) (a b : Nat) : s.extract a b = ⟨((s.data.toList.drop a).take (b - a)).toArray⟩ := by
  apply ByteArray.ext
  apply Array.toList_inj.1
  rw [Lib.extract_data]
/-- the loop's state: the words done, the word at hand from f on, k read. -/
structure CutAt (l : List UInt8) (c : UInt8) (k f : Nat) (done : List (List UInt8)) : Prop where
  hk : k ≤ l.length
  hf : f ≤ k
  hd : done.length ≤ k
  eq : parts c [] l = done ++ parts c ((l.drop f).take (k - f)) (l.drop k)
theorem cutAt_start (l : List UInt8) (c : UInt8) : CutAt l c 0 0 [] := ⟨by simp, by simp, by simp, by simp⟩
theorem CutAt.hit {l : List UInt8} {c : UInt8} {k f : Nat} {done : List (List UInt8)} (h : CutAt l c k f done) (hk : k < l.length) (hc : l[k] = c) : CutAt l c (k + 1) (k + 1) (done ++ [(l.drop f).take (k - f)]) := by
  refine ⟨hk, Nat.le_refl _, by have := h.hd; simp; omega, ?_⟩
  rw [h.eq, List.drop_eq_getElem_cons hk]
  show done ++ parts c _ (l[k] :: l.drop (k + 1)) = _
  conv => lhs; unfold parts
  rw [if_pos hc]
  simp
theorem CutAt.miss {l : List UInt8} {c : UInt8} {k f : Nat} {done : List (List UInt8)} (h : CutAt l c k f done) (hk : k < l.length) (hc : ¬ l[k] = c) : CutAt l c (k + 1) f done := by
  have hf := h.hf
  refine ⟨hk, by omega, by have := h.hd; omega, ?_⟩
  rw [h.eq, List.drop_eq_getElem_cons hk]
  show done ++ parts c _ (l[k] :: l.drop (k + 1)) = _
  conv => lhs; unfold parts
  rw [if_neg hc]
  congr 2
  rw [show k + 1 - f = (k - f) + 1 by omega, List.take_succ_eq_append_getElem (by rw [List.length_drop]; omega)]
  congr 2
  rw [List.getElem_drop]
  congr 1
  omega
theorem CutAt.over {l : List UInt8} {c : UInt8} {f : Nat} {done : List (List UInt8)} (h : CutAt l c l.length f done) : parts c [] l = done ++ [l.drop f] := by
  rw [h.eq, List.drop_length]
  have hf := h.hf
  simp only [parts]
  rw [List.take_of_length_le (by rw [List.length_drop]; omega)]
theorem rel_cut {B : Nat} {w wr w1 : World} {v v' : Value} {o : Obj} {done : List (List UInt8)} {x : List UInt8} (hB : B ≤ wr.heap.size)
    (hown : wr.ownsRow B 9 1 v done.length (done.map strV)) (hnx : Below B w wr)
    (hown' : w1.ownsRow B 9 1 v' (done.length + 1) (done.map strV ++ [strV x])) (hgrow : (wr.alloc o).grownBy w1 v.ownBlock) :
    w1.ownsRow B 9 1 v' (done ++ [x]).length ((done ++ [x]).map strV) ∧ Below B w w1 :=
  ⟨by simpa using hown', (hnx.alloc hB o).grown hgrow (by simp; omega) (fun j hj => (hown.lt j hj).1)⟩

set_option linter.unusedVariables false in
set_option maxRecDepth 100000 in
set_option maxHeartbeats 4000000 in
theorem rCut_any (s : ByteArray) (c : UInt8) (w : World) (hs : s.size < 4294967281) :
    Calls Tryz.prog 58 #[.string s, .int .u8 (c.toNat : Int)] w fun e w' => (∃ v, e = .returned v ∧ w'.ownsRow w.heap.size 9 1 v (parts c [] s.data.toList).length ((parts c [] s.data.toList).map strV)) ∧ Below w.heap.size w w' := by
  obtain ⟨i0, hi, hz0, hz1, hz2⟩ := info_parts infoS
  obtain ⟨B, hB⟩ : ∃ B, Hid (w.heap.size = B) := ⟨_, show _ = _ from rfl⟩
  rw [show w.heap.size = B from hB.out]
  go_enter Tryz.func58, Tryz.ntmps58
  go_wp2
  go_loopw [5, 6, 7] (fun v f i wr => ∃ (k m : Nat) (done : List (List UInt8)), i = .int .i64 k ∧ f = .int .i64 m ∧ Hid (CutAt s.data.toList c k m done) ∧ wr.ownsRow B 9 1 v done.length (done.map strV) ∧ Below B w wr) (fun _ _ i _ => s.size - (intOf i).toNat)
  case atStart => exact ⟨0, 0, [], rfl, rfl, cutAt_start _ _, World.ownsRow_nil _ _ _ _, Below.refl _ _⟩
  case round =>
    obtain ⟨k, m, done, rfl, rfl, HC, hown, hnx⟩ := hrel
    have hkl : k ≤ s.size := by have := HC.out.hk; rw [len_data] at this; exact this
    have hmk : m ≤ k := HC.out.hf
    have hdk : done.length ≤ k := HC.out.hd
    have hBw : B ≤ wr.heap.size := by rw [← hB.out]; exact hnx.size
    by_cases hlt : k < s.size
    · by_cases hc : s[k] = c
      · have hb : ((s[k].toNat : Int) == (c.toNat : Int)) = true := by rw [hc]; simp
        have HC2 : Hid (CutAt s.data.toList c (k + 1) (k + 1) (done ++ [(s.data.toList.drop m).take (k - m)])) := HC.out.hit (by rw [len_data]; exact hlt) hc
        go_wp2_with (at_builtin; refine wpList_append_own _ rfl _ _ 74 rfl B 9 i0 (.string ⟨#[]⟩) 1 16 Tryz.underlying74 hi hz0 hz1 hz2 rfl (by decide) _ _ _ rfl (hown.alloc _) ⟨wr.heap.size, 0, none⟩ 1 1 [.string (s.extract m k)] rfl rfl ?c1 ?c2 ?c3 ?c4 ?c5 ?_)
        case c1 =>
          intro j u hj
          match j, hj with
          | 0, hj => simp at hj; subst hj; simp [Addr.add]
        case c2 => intro u hu; simp at hu; subst hu; rfl
        case c3 => unfold maxLen; omega
        case c4 => omega
        case c5 => simp; omega
        intro v' w1 hown' hgrow _
        have R := rel_cut (x := (s.data.toList.drop m).take (k - m)) hBw hown hnx (by unfold strV; rw [← extract_list]; exact hown') hgrow
        clear hown' hgrow hown hnx
        go_wp2
        go_roundw
        case rel => exact ⟨k + 1, k + 1, _, by go_num, by go_num, HC2, R.1, R.2⟩
        case measure => simp [intOf]; omega
      · have hb : ((s[k].toNat : Int) == (c.toNat : Int)) = false := by
          rw [beq_eq_false_iff_ne]
          intro e
          exact hc (UInt8.toNat_inj.1 (by omega))
        have HC2 : Hid (CutAt s.data.toList c (k + 1) m done) := HC.out.miss (by rw [len_data]; exact hlt) hc
        go_wp2
        go_roundw
        case rel => exact ⟨k + 1, m, _, by go_num, rfl, HC2, hown, hnx⟩
        case measure => simp [intOf]; omega
    · have hkk : k = s.size := by omega
      have HE : Hid (parts c [] s.data.toList = done ++ [s.data.toList.drop m]) := by
        have h := HC.out
        rw [show k = s.data.toList.length by rw [len_data]; exact hkk] at h
        exact h.over
      have hx : s.extract m s.size = ⟨(s.data.toList.drop m).toArray⟩ := by
        rw [extract_list, List.take_of_length_le (by rw [List.length_drop, len_data]; omega)]
      go_wp2_with (at_builtin; refine wpList_append_own _ rfl _ _ 74 rfl B 9 i0 (.string ⟨#[]⟩) 1 16 Tryz.underlying74 hi hz0 hz1 hz2 rfl (by decide) _ _ _ rfl (hown.alloc _) ⟨wr.heap.size, 0, none⟩ 1 1 [strV (s.data.toList.drop m)] rfl rfl ?c1 ?c2 ?c3 ?c4 ?c5 ?_)
      case c1 =>
        intro j u hj
        match j, hj with
        | 0, hj => simp at hj; subst hj; simp [Addr.add, strV]
      case c2 => intro u hu; simp at hu; subst hu; rfl
      case c3 => unfold maxLen; omega
      case c4 => omega
      case c5 => simp; omega
      intro v' w1 hown' hgrow _
      have R := rel_cut (x := s.data.toList.drop m) hBw hown hnx hown' hgrow
      clear hown' hgrow hown hnx
      go_wp2
      go_ret
      refine ⟨⟨_, rfl, ?_⟩, R.2⟩
      rw [HE.out]
      exact R.1
end Go.Proofs.YtbfdgflbflajdaaGreatDoor

namespace Go.Proofs.YtbfdgflbflajdaaGreatDoor
open Go.RowKit

/-- what a slice at p holds: texts. -/
def Strs (w : World) (p : Option Addr) (L : List (List UInt8)) : Prop :=
  ∀ i (h : i < L.length), ∃ b o, p = some ⟨b, o, none⟩ ∧ w.cell? ⟨b, o + i, none⟩ = some (strV L[i])
theorem Strs.below {w w' : World} {p : Option Addr} {L : List (List UInt8)} (h : Strs w p L) (hb : Below w.heap.size w w') : Strs w' p L := fun i hi => by
  obtain ⟨b, o, e, c⟩ := h i hi
  exact ⟨b, o, e, cell_kept hb c⟩
def intV (x : Int) : Value := .int .i64 x
theorem own_ints {w : World} {B : Nat} {e : TypeId} {v : Value} {L : List Int} (h : w.ownsRow B e 1 v L.length (L.map intV)) : ∃ p cap, v = .slice p L.length cap ∧ L.length ≤ cap ∧ cap ≤ maxLen ∧ Ints w p L := by
  rcases h.2 with ⟨hv, h0⟩ | ⟨g, cap, cur, hv, hb, hg, h1, h2, h3, h4⟩
  · have : L = [] := List.eq_nil_of_length_eq_zero h0
    subst this
    exact ⟨none, 0, hv, by simp, by simp, ints_nil _ _⟩
  · refine ⟨some ⟨g, 0, none⟩, cap, hv, h1, h2, fun i hi => ⟨g, 0, rfl, ?_⟩⟩
    subst hv
    rw [Nat.zero_add, h.cellAt _ (by omega)]
    simp [hi, intV]
theorem own_strs {w : World} {B : Nat} {e : TypeId} {v : Value} {L : List (List UInt8)} (h : w.ownsRow B e 1 v L.length (L.map strV)) : ∃ p cap, v = .slice p L.length cap ∧ L.length ≤ cap ∧ cap ≤ maxLen ∧ Strs w p L := by
  rcases h.2 with ⟨hv, h0⟩ | ⟨g, cap, cur, hv, hb, hg, h1, h2, h3, h4⟩
  · have : L = [] := List.eq_nil_of_length_eq_zero h0
    subst this
    exact ⟨none, 0, hv, by simp, by simp, fun i hi => by simp at hi⟩
  · refine ⟨some ⟨g, 0, none⟩, cap, hv, h1, h2, fun i hi => ⟨g, 0, rfl, ?_⟩⟩
    subst hv
    rw [Nat.zero_add, h.cellAt _ (by omega)]
    simp [hi]
theorem infoInt : (Tryz.prog.info? 3).map (fun i => (i.zero, i.size, i.bytes)) = some (some (.int .i64 0), 1, 8) := by kernel_rfl
theorem rel_int {B : Nat} {w wr w1 : World} {v v' : Value} {o : Obj} {done : List Int} {x : Int} (hB : B ≤ wr.heap.size)
    (hown : wr.ownsRow B 3 1 v done.length (done.map intV)) (hnx : Below B w wr)
    (hown' : w1.ownsRow B 3 1 v' (done.length + 1) (done.map intV ++ [intV x])) (hgrow : (wr.alloc o).grownBy w1 v.ownBlock) :
    w1.ownsRow B 3 1 v' (done ++ [x]).length ((done ++ [x]).map intV) ∧ Below B w w1 :=
  ⟨by simpa using hown', (hnx.alloc hB o).grown hgrow (by simp; omega) (fun j hj => (hown.lt j hj).1)⟩
/-- the words are numbers, all of them. -/
def allNum (L : List (List UInt8)) : Bool := L.all okNum
theorem numR_sign (l : List UInt8) : (okNum l = true ∧ 0 ≤ numR l) ∨ (okNum l = false ∧ numR l = -1) := by
  cases h : okNum l with
  | false => exact .inr ⟨rfl, numR_not h⟩
  | true => exact .inl ⟨rfl, by rw [numR_yes h]; exact (valD_lt _ l rfl (by unfold okNum at h; simp only [Bool.and_eq_true] at h; exact h.2)).1⟩

set_option linter.unusedVariables false in
set_option maxRecDepth 100000 in
set_option maxHeartbeats 4000000 in
theorem rNumbersOf_any (p : Option Addr) (L : List (List UInt8)) (k0 cap : Nat) (w : World) (h : Strs w p L) (hk : k0 = L.length) (hl : L.length ≤ 1099511627776) (hs : ∀ l ∈ L, l.length ≤ maxLen) :
    Calls Tryz.prog 60 #[.slice p k0 cap] w fun e w' => (∃ v, e = .returned (.tuple #[v, .bool (allNum L)]) ∧ ((allNum L = true ∧ w'.ownsRow w.heap.size 3 1 v L.length ((L.map numR).map intV)) ∨ (allNum L = false ∧ v = .slice none 0 0))) ∧ Below w.heap.size w w' := by
  subst hk
  obtain ⟨i0, hi, hz0, hz1, hz2⟩ := info_parts infoInt
  obtain ⟨HE⟩ : Nonempty (Hid (Strs w p L ∧ ∀ l ∈ L, l.length ≤ maxLen)) := ⟨⟨h, hs⟩⟩
  obtain ⟨B, hB⟩ : ∃ B, Hid (w.heap.size = B) := ⟨_, show _ = _ from rfl⟩
  rw [show w.heap.size = B from hB.out]
  clear h hs
  go_enter Tryz.func60, Tryz.ntmps60
  go_wp2_with fail
  go_loopw [4, 5, 6] (fun v i _ wr => ∃ (k : Nat) (done : List Int), i = .int .i64 k ∧ k ≤ L.length ∧ Hid ((∀ j (hj : j < L.length), j < k → okNum L[j] = true) ∧ (L.take k).map numR = done) ∧ wr.ownsRow B 3 1 v done.length (done.map intV) ∧ Below B w wr) (fun _ i _ _ => L.length - (intOf i).toNat)
  case atStart => exact ⟨0, [], rfl, Nat.zero_le _, ⟨fun j _ h => by omega, rfl⟩, World.ownsRow_nil _ _ _ _, Below.refl _ _⟩
  case round =>
    obtain ⟨k, done, rfl, hkl, HK, hown, hnx⟩ := hrel
    have hBw : B ≤ wr.heap.size := by rw [← hB.out]; exact hnx.size
    by_cases hlt : k < L.length
    · have q3 : (k : Int) < L.length := by omega
      obtain ⟨b, o, rfl, x0⟩ := HE.out.1 k hlt
      have hbw : Below w.heap.size w wr := by rw [show w.heap.size = B from hB.out]; exact hnx
      have d0 := cell_kept hbw x0
      obtain ⟨x, hx⟩ : ∃ x, Hid (L[k] = x) := ⟨_, show _ = _ from rfl⟩
      rw [show L[k] = x from hx.out] at d0
      unfold strV at d0
      obtain ⟨HC⟩ : Nonempty (Hid (Calls _ _ _ _ _)) := ⟨rNumberOf_any ⟨x.toArray⟩ wr (by have := HE.out.2 L[k] (List.getElem_mem hlt); rw [hx.out] at this; show x.toArray.size ≤ maxLen; simpa using this)⟩
      simp only at HC
      obtain ⟨n, hn⟩ : ∃ n, Hid (numR x = n) := ⟨_, show _ = _ from rfl⟩
      rw [show numR x = n from hn.out] at HC
      clear x0 hbw
      rcases numR_sign x with ⟨ok, hs⟩ | ⟨ok, hs⟩
      · rw [show numR x = n from hn.out] at hs
        have hd : decide (n < 0) = false := decide_eq_false (by omega)
        obtain ⟨HN⟩ : Nonempty (Hid ((∀ j (hj : j < L.length), j < k + 1 → okNum L[j] = true) ∧ (L.take (k + 1)).map numR = done ++ [n])) := ⟨⟨fun j hj hjk => by
            by_cases he : j = k
            · subst he; rw [hx.out]; exact ok
            · exact HK.out.1 j hj (by omega), by
            rw [List.take_succ_eq_append_getElem hlt, List.map_append, HK.out.2, hx.out]; simp only [List.map_cons, List.map_nil]; rw [hn.out]⟩⟩
        clear hs ok
        go_wp2_with fail
        refine HC.out.mono ?_
        rintro e w1 ⟨rfl, rfl⟩
        clear HC d0
        have hlen : done.length ≤ 1099511627776 := by rw [← HK.out.2]; simp; omega
        go_wp2_with (at_builtin; refine wpList_append_own _ rfl _ _ 22 rfl B 3 i0 (.int .i64 0) 1 8 Tryz.underlying22 hi hz0 hz1 hz2 rfl (by decide) _ _ _ rfl (hown.alloc _) ⟨w1.heap.size, 0, none⟩ 1 1 [intV n] rfl rfl ?c1 ?c2 ?c3 ?c4 ?c5 ?_)
        case c1 =>
          intro j u hj
          match j, hj with
          | 0, hj => simp at hj; subst hj; simp [Addr.add, intV]
        case c2 => intro u hu; simp at hu; subst hu; rfl
        case c3 => unfold maxLen; omega
        case c4 => omega
        case c5 => simp; omega
        intro v' w2 hown' hgrow _
        have R := rel_int (x := n) hBw hown hnx hown' hgrow
        clear hown' hgrow hown hnx
        go_wp2_with fail
        go_roundw
        case rel => exact ⟨k + 1, done ++ [n], by go_num, by omega, HN, R.1, R.2⟩
        case measure => simp [intOf]; omega
      · rw [show numR x = n from hn.out] at hs
        have hd : decide (n < 0) = true := decide_eq_true (by omega)
        have HA : Hid (allNum L = false) := by
          show _ = _
          unfold allNum
          rw [← Bool.not_eq_true, List.all_eq_true]
          intro ha
          have := ha L[k] (List.getElem_mem hlt)
          rw [hx.out, ok] at this
          cases this
        clear hs ok
        go_wp2_with fail
        refine HC.out.mono ?_
        rintro e w1 ⟨rfl, rfl⟩
        clear HC d0
        go_wp2_with fail
        exact bodyPost_ret (v := .tuple #[.slice none 0 0, .bool false]) (by simp [results, Tryz.results60, go_sem]) rfl ⟨⟨_, by rw [HA.out], .inr ⟨HA.out, rfl⟩⟩, hnx⟩
    · obtain rfl : k = L.length := by omega
      have HA : Hid (allNum L = true) := by
        show _ = _
        unfold allNum
        rw [List.all_eq_true]
        intro x hx
        obtain ⟨i, hi, rfl⟩ := List.getElem_of_mem hx
        exact HK.out.1 i hi hi
      rw [← HK.out.2, List.take_length, List.length_map] at hown
      obtain ⟨HO⟩ : Nonempty (Hid _) := ⟨hown⟩
      clear hown
      go_wp2_with fail
      exact bodyPost_ret (v := .tuple #[u4, .bool true]) (by simp [results, Tryz.results60, go_sem]) rfl ⟨⟨_, by rw [HA.out], .inl ⟨HA.out, HO.out⟩⟩, hnx⟩
end Go.Proofs.YtbfdgflbflajdaaGreatDoor

namespace Go.Proofs.YtbfdgflbflajdaaGreatDoor
open Go.RowKit

/-- a slice's value as a program makes it: none of none, or one in a block. -/
def Kind1 (p : Option Addr) (n c : Nat) : Prop := (p = none ∧ n = 0 ∧ c = 0) ∨ ((∃ b o, p = some ⟨b, o, none⟩) ∧ n ≤ c ∧ c ≤ maxLen)
theorem ints_one (L : List Int) : ∀ u ∈ L.map intV, u.oneCell' = true := by
  intro u hu
  simp [intV] at hu
  obtain ⟨a, -, rfl⟩ := hu
  rfl
/-- all of a list of numbers behind a row's end. -/
theorem wp_addAll1 {P : Program} {W : World} {ops : Array Oper} {rest : List Oper} {o : Oper} {a : Act} {Q : Exit → Act → World → Prop} (hgd : o.guard = none) (s x : Operand) (t : TypeId)
    (ho : o.op = .call { callee := .builtin .append, args := #[s, x], argTypes := #[t, t] })
    (base : Nat) (e : TypeId) (i : TypeInfo) (ht : P.underlying t = some (.slice e)) (hi : P.info? e = some i) (hz : i.zero = some (.int .i64 0)) (hsize : i.size = 1) (hby : i.bytes = 8)
    (v : Value) (O : List Int) (hs : a.eval s = v) (hown : W.ownsRow base e 1 v O.length (O.map intV)) (p : Option Addr) (M : List Int) (n c : Nat) (hx : a.eval x = .slice p n c) (hn : M.length = n) (hk : Kind1 p n c) (hM : Ints W p M) (O' : List Int) (hO' : Hid (O ++ M = O'))
    (hO : O.length + M.length ≤ 1099511627776) (hbase : base ≤ W.heap.size)
    (h : ∀ v' w', w'.ownsRow base e 1 v' O'.length (O'.map intV) → Below base W w' → wpList P ops Q rest (a.put o.dst v') w') : wpList P ops Q (o :: rest) a W := by
  subst hn
  rcases hk with ⟨rfl, h0, rfl⟩ | ⟨⟨b0, o0, rfl⟩, -, -⟩
  · have hM0 : M = [] := List.eq_nil_of_length_eq_zero h0
    subst hM0
    rw [List.append_nil] at hO'
    have := hO'.out
    subst this
    exact wpList_append_own_none hgd s x t ho base e i 1 ht hi v O.length (O.map intV) hs hown hx (h v W hown (Below.refl _ _))
  · refine wpList_append_own _ hgd s x t ho base e i (.int .i64 0) 1 8 ht hi hz hsize hby rfl (by decide) v O.length (O.map intV) hs hown ⟨b0, o0, none⟩ M.length c (M.map intV) hx (by simp) ?_ (ints_one M) (by unfold maxLen; omega) (by omega) hbase ?_
    · intro j u hj
      have hjl : j < M.length := by
        have := (List.getElem?_eq_some_iff.1 hj).1
        simpa using this
      obtain ⟨b, o', e', c0⟩ := hM j hjl
      simp only [Option.some.injEq, Addr.mk.injEq, and_true] at e'
      obtain ⟨e1, e2⟩ := e'
      rw [← e1, ← e2] at c0
      have hadd : (⟨b0, o0, none⟩ : Addr).add j = ⟨b0, o0 + j, none⟩ := by
        unfold Addr.add
        split
        · rename_i h; subst h; rfl
        · rfl
      rw [hadd]
      simp [hjl, intV] at hj
      rw [← hj]
      exact c0
    · intro v' w1 hown' hgrow _
      rw [← hO'.out] at h
      refine h v' w1 ?_ ((Below.refl base W).grown hgrow hbase (fun j hj => (hown.lt j hj).1))
      rw [List.map_append, List.length_append]
      exact hown'

/-- a value that holds an attribute, its slices as a program makes them. -/
def AttrK (w : World) (v : Value) (A : At) : Prop :=
  ∃ p cp q cq, v = .agg #[.slice p A.path.length cp, .int .i64 A.pref, .int .i64 A.med, .int .i64 A.org, .slice q A.tags.length cq] ∧ Ints w p A.path ∧ Ints w q A.tags ∧ Kind1 p A.path.length cp ∧ Kind1 q A.tags.length cq
theorem AttrK.attr {w : World} {v : Value} {A : At} (h : AttrK w v A) : IsAttr w v A := by
  obtain ⟨p, cp, q, cq, e, h1, h2, -, -⟩ := h
  exact ⟨p, cp, q, cq, e, h1, h2⟩
theorem AttrK.below {w w' : World} {v : Value} {A : At} (h : AttrK w v A) (hb : Below w.heap.size w w') : AttrK w' v A := by
  obtain ⟨p, cp, q, cq, e, h1, h2, h3, h4⟩ := h
  exact ⟨p, cp, q, cq, e, h1.below hb, h2.below hb, h3, h4⟩
theorem aOwn_kind {w : World} {B : Nat} {e : TypeId} {v : Value} {L : List Int} (h : w.ownsRow B e 1 v L.length (L.map intV)) : ∃ p cap, v = .slice p L.length cap ∧ Kind1 p L.length cap ∧ Ints w p L := by
  obtain ⟨p, cap, e1, l1, l2, hi⟩ := own_ints h
  rcases h.2 with ⟨hv, h0⟩ | ⟨g, cap', cur, hv, -⟩
  · refine ⟨p, cap, e1, .inl ?_, hi⟩
    rw [e1] at hv
    simp only [Value.slice.injEq] at hv
    exact ⟨hv.1, hv.2.1, hv.2.2⟩
  · refine ⟨p, cap, e1, .inr ⟨?_, l1, l2⟩, hi⟩
    rw [e1] at hv
    simp only [Value.slice.injEq] at hv
    exact ⟨_, _, hv.1⟩

theorem own_kind' {w : World} {B : Nat} {e : TypeId} {v : Value} {L : List Int} (h : w.ownsRow B e 1 v L.length (L.map intV)) : ∃ p cap, v = .slice p L.length cap ∧ Kind1 p L.length cap ∧ Ints w p L ∧ ∀ b o, p = some ⟨b, o, none⟩ → B ≤ b := by
  obtain ⟨p, cap, e1, hk, hi⟩ := aOwn_kind h
  refine ⟨p, cap, e1, hk, hi, fun b o e2 => ?_⟩
  subst e1 e2
  rcases h.2 with ⟨hv, h0⟩ | ⟨g, cap', cur, hv, hb, -⟩
  · simp at hv
  · simp only [Value.slice.injEq, Option.some.injEq, Addr.mk.injEq] at hv
    obtain ⟨⟨rfl, -⟩, -⟩ := hv
    exact hb
theorem Ints.set {w : World} {p : Option Addr} {L : List Int} (h : Ints w p L) {B : Nat} (hne : ∀ b o, p = some ⟨b, o, none⟩ → B < b) (k : Nat) (u : Value) : Ints (w.setCell ⟨B, k, none⟩ u) p L := fun i hi => by
  obtain ⟨b, o, e, c⟩ := h i hi
  have := hne b o e
  exact ⟨b, o, e, by rw [World.cell?_setCell_other _ _ _ _ (by intro he; simp at he <;> omega)]; exact c⟩
/-- two attributes' places: the argument's copy and the answer. -/
def AX (w wr : World) (B : Nat) (va vr : Array Value) : Prop :=
  wr.heap[B]? = some (.cells va 24 (0, 0)) ∧ wr.heap[B + 1]? = some (.cells vr 24 (0, 0)) ∧ Below B w wr
theorem AX.on {w wr w' : World} {B : Nat} {va vr : Array Value} (h : AX w wr B va vr) (hb : Below wr.heap.size wr w') : AX w w' B va vr := by
  obtain ⟨a, b, c⟩ := h
  have l1 := (Array.getElem?_eq_some_iff.1 a).1
  have l2 := (Array.getElem?_eq_some_iff.1 b).1
  exact ⟨by rw [hb.block B l1]; exact a, by rw [hb.block (B + 1) l2]; exact b, c.trans (hb.mono (Nat.le_of_lt l1))⟩
theorem ax_start (w : World) (va vr : Array Value) : AX w ((w.alloc (.cells va 24)).alloc (.cells vr 24)) w.heap.size va vr := by
  have a : (w.alloc (.cells va 24)).heap[w.heap.size]? = some (.cells va 24 (0, 0)) := Go.heap_alloc_new w _
  have l1 := (Array.getElem?_eq_some_iff.1 a).1
  have b := Go.heap_alloc_new (w.alloc (.cells va 24)) (.cells vr 24)
  have hs : (w.alloc (.cells va 24)).heap.size = w.heap.size + 1 := by simp
  rw [hs] at b
  exact ⟨by rw [(below_alloc (w.alloc (.cells va 24)) _).block _ l1]; exact a, b, below_two _ _ _⟩
theorem AX.set {w wr : World} {B : Nat} {va vr : Array Value} (h : AX w wr B va vr) (k : Nat) (u : Value) : AX w (wr.setCell ⟨B, k, none⟩ u) B (va.setIfInBounds k u) vr :=
  ⟨heap_setCell_same wr B k va _ u h.1, by rw [Below.heap_setCell _ _ _ _ (by simp)]; exact h.2.1, h.2.2.setCell (Nat.le_refl _) _⟩
theorem AX.arg {w wr : World} {B : Nat} {a b c d e : Value} {vr : Array Value} (h : AX w wr B #[a, b, c, d, e] vr) : wr.cell? ⟨B, 0, none⟩ = some a ∧ wr.cell? ⟨B, 1, none⟩ = some b ∧ wr.cell? ⟨B, 2, none⟩ = some c ∧ wr.cell? ⟨B, 3, none⟩ = some d ∧ wr.cell? ⟨B, 4, none⟩ = some e := by
  refine ⟨?_, ?_, ?_, ?_, ?_⟩ <;> simp [World.cell?, h.1]
theorem AX.res {w wr : World} {B : Nat} {a b c d e : Value} {va : Array Value} (h : AX w wr B va #[a, b, c, d, e]) : wr.cell? ⟨B + 1, 0, none⟩ = some a ∧ wr.cell? ⟨B + 1, 1, none⟩ = some b ∧ wr.cell? ⟨B + 1, 2, none⟩ = some c ∧ wr.cell? ⟨B + 1, 3, none⟩ = some d ∧ wr.cell? ⟨B + 1, 4, none⟩ = some e := by
  refine ⟨?_, ?_, ?_, ?_, ?_⟩ <;> simp [World.cell?, h.2.1]
theorem AX.soft {w wr : World} {B : Nat} {va vr : Array Value} (h : AX w wr B va vr) (k : Nat) : wr.frozen? ⟨B, k, none⟩ = false ∧ wr.frozen? ⟨B + 1, k, none⟩ = false := by
  constructor <;> simp [World.frozen?, h.1, h.2.1]

/-- an attribute whose lists lie from block N on. -/
def AttrF (w : World) (v : Value) (A : At) (N : Nat) : Prop :=
  ∃ p cp q cq, v = .agg #[.slice p A.path.length cp, .int .i64 A.pref, .int .i64 A.med, .int .i64 A.org, .slice q A.tags.length cq] ∧ Ints w p A.path ∧ Ints w q A.tags ∧ Kind1 p A.path.length cp ∧ Kind1 q A.tags.length cq ∧ (∀ b o, p = some ⟨b, o, none⟩ → N ≤ b) ∧ (∀ b o, q = some ⟨b, o, none⟩ → N ≤ b)
theorem AttrF.attrK {w : World} {v : Value} {A : At} {N : Nat} (h : AttrF w v A N) : AttrK w v A := by
  obtain ⟨p, cp, q, cq, e, h1, h2, h3, h4, -, -⟩ := h
  exact ⟨p, cp, q, cq, e, h1, h2, h3, h4⟩
set_option linter.unusedVariables false in
set_option maxRecDepth 100000 in
set_option maxHeartbeats 4000000 in
theorem ownAttr_own (v : Value) (A : At) (w : World) (h : AttrK w v A) (h1 : A.path.length ≤ 1000000) (h2 : A.tags.length ≤ 1000000) :
    Calls Tryz.prog 17 #[v] w fun r w' => (∃ v', r = .returned v' ∧ AttrF w' v' A w.heap.size) ∧ Below w.heap.size w w' := by
  obtain ⟨p, cp, q, cq, rfl, i1, i2, k1, k2⟩ := h
  obtain ⟨P, f, m, o, T⟩ := A
  simp only at *
  obtain ⟨i0, hi, hz0, hz1, hz2⟩ := info_parts infoInt
  obtain ⟨HK⟩ : Nonempty (Hid (Ints w p P ∧ Ints w q T ∧ Kind1 p P.length cp ∧ Kind1 q T.length cq)) := ⟨⟨i1, i2, k1, k2⟩⟩
  clear i1 i2 k1 k2
  go_enter Tryz.func17, Tryz.ntmps17
  go_wp2_with (at_builtin; refine wp_addAll1 rfl _ _ 22 rfl _ 3 i0 Tryz.underlying22 hi hz0 hz1 hz2 _ [] rfl (World.ownsRow_nil _ _ _ _) p P _ cp rfl rfl HK.out.2.2.1 (HK.out.1.below (below_two _ _ _)) P (show _ = _ from rfl) (by simp; omega) (Nat.le_refl _) ?_)
  intro v1 w1 ho1 hb1
  obtain ⟨p1, cp1, rfl, k1, hi1, hf1⟩ := own_kind' ho1
  have hx := (ax_start w _ _).on (hb1.mono (by simp))
  obtain ⟨a0, a1, a2, a3, a4⟩ := hx.arg
  have z0 := (hx.soft 0).1
  obtain ⟨H1⟩ : Nonempty (Hid (AX w w1 w.heap.size _ _ ∧ Ints w1 p1 P ∧ Kind1 p1 P.length cp1 ∧ ∀ b o, p1 = some ⟨b, o, none⟩ → w.heap.size + 1 < b)) := ⟨⟨hx, hi1, k1, fun b o e => by have := hf1 b o e; (try simp at this); omega⟩⟩
  clear ho1 hb1 k1 hi1 hf1 hx
  obtain ⟨B, hB⟩ : ∃ B, Hid (w.heap.size = B) := ⟨_, show _ = _ from rfl⟩
  rw [show w.heap.size = B from hB.out] at a0 a1 a2 a3 a4 z0 H1 ⊢
  obtain ⟨HQ⟩ : Nonempty (Hid (Ints (w1.setCell ⟨B, 0, none⟩ (.slice p1 P.length cp1)) q T)) := ⟨HK.out.2.1.below (by have := (H1.out.1.set 0 (.slice p1 P.length cp1)).2.2; rw [← show w.heap.size = B from hB.out] at this ⊢; exact this)⟩
  go_wp2_with (at_builtin; refine wp_addAll1 rfl _ _ 22 rfl _ 3 i0 Tryz.underlying22 hi hz0 hz1 hz2 _ [] rfl (World.ownsRow_nil _ _ _ _) q T _ cq rfl rfl HK.out.2.2.2 HQ.out T (show _ = _ from rfl) (by simp; omega) (Nat.le_refl _) ?_)
  intro v2 w2 ho2 hb2
  obtain ⟨p2, cp2, rfl, k2, hi2, hf2⟩ := own_kind' ho2
  have hlt : B + 1 < w1.heap.size := (Array.getElem?_eq_some_iff.1 H1.out.1.2.1).1
  have hb3 : Below (w1.setCell ⟨B, 0, none⟩ (.slice p1 P.length cp1)).heap.size (w1.setCell ⟨B, 0, none⟩ (.slice p1 P.length cp1)) w2 := hb2.mono (by simp)
  have hx : AX w w2 B #[.slice p1 P.length cp1, .int .i64 f, .int .i64 m, .int .i64 o, .slice q T.length cq] _ := (H1.out.1.set 0 (.slice p1 P.length cp1)).on hb3
  obtain ⟨H2⟩ : Nonempty (Hid (AX w w2 B _ _ ∧ Ints w2 p1 P ∧ Ints w2 p2 T ∧ Kind1 p1 P.length cp1 ∧ Kind1 p2 T.length cp2 ∧ (∀ b o, p1 = some ⟨b, o, none⟩ → B + 1 < b) ∧ (∀ b o, p2 = some ⟨b, o, none⟩ → B + 1 < b))) := ⟨⟨hx, (H1.out.2.1.set (fun b o e => by have := H1.out.2.2.2 b o e; omega) 0 _).below hb3, hi2, H1.out.2.2.1, k2, H1.out.2.2.2, fun b o e => by have := hf2 b o e; (try simp at this); omega⟩⟩
  clear a0 a1 a2 a3 a4 z0
  obtain ⟨a0, a1, a2, a3, a4⟩ := hx.arg
  obtain ⟨r0, r1, r2, r3, r4⟩ := hx.res
  have z4 := (hx.soft 4).1
  have y0 := (hx.soft 0).2
  have y1 := (hx.soft 1).2
  have y2 := (hx.soft 2).2
  have y3 := (hx.soft 3).2
  have y4 := (hx.soft 4).2
  clear ho2 hb2 k2 hi2 hf2 hlt hb3 hx H1 HQ
  go_wp2_with fail
  obtain ⟨HX, j1, j2, k1, k2, n1, n2⟩ := H2.out
  have n1' : ∀ b o, p1 = some ⟨b, o, none⟩ → B < b := fun b o e => by have := n1 b o e; omega
  have n2' : ∀ b o, p2 = some ⟨b, o, none⟩ → B < b := fun b o e => by have := n2 b o e; omega
  refine bodyPost_ret (v := .agg #[.slice p1 P.length cp1, .int .i64 f, .int .i64 m, .int .i64 o, .slice p2 T.length cp2]) (by simp [results, Tryz.results17, go_sem, r0, r1, r2, r3, r4]) rfl ⟨⟨_, rfl, p1, cp1, p2, cp2, rfl, ?_, ?_, k1, k2, fun b o e => by have := n1 b o e; rw [show w.heap.size = B from hB.out]; omega, fun b o e => by have := n2 b o e; rw [show w.heap.size = B from hB.out]; omega⟩, ?_⟩
  · exact (((((j1.set n1' _ _).set n1 _ _).set n1 _ _).set n1 _ _).set n1 _ _).set n1 _ _
  · exact (((((j2.set n2' _ _).set n2 _ _).set n2 _ _).set n2 _ _).set n2 _ _).set n2 _ _
  · rw [show w.heap.size = B from hB.out]
    exact (((((HX.2.2.setCell (by simp) _).setCell (by simp) _).setCell (by simp) _).setCell (by simp) _).setCell (by simp) _).setCell (by simp) _
theorem ownAttr_any (v : Value) (A : At) (w : World) (h : AttrK w v A) (h1 : A.path.length ≤ 1000000) (h2 : A.tags.length ≤ 1000000) :
    Calls Tryz.prog 17 #[v] w fun r w' => (∃ v', r = .returned v' ∧ AttrK w' v' A) ∧ Below w.heap.size w w' :=
  (ownAttr_own v A w h h1 h2).mono fun _ _ ⟨⟨v', e, k⟩, b⟩ => ⟨⟨v', e, k.attrK⟩, b⟩
end Go.Proofs.YtbfdgflbflajdaaGreatDoor
