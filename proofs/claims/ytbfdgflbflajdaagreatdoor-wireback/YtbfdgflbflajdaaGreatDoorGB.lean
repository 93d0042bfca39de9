/-
  Plain mathematics of addresses and prefixes: the power of two that is a prefix's size, and what the program's bits come to.
  What every walk leans on: endings, cells that stand, boxes, numbers that need no wrap. (Nothing here speaks of a function of the dump.)
  Slices of whole numbers in memory; the document's InInts and SameInts.
  What is told of a route, in memory; the document's SameAttr, LongAttr and AttrFault.
  The first fault in what is told of a route: its mathematics; the document's Fine and Bare.
-/
import Derived.Laws.BitsLemmas
import Derived.Laws.BitsAllLaws
import Derived.Laws.Wrap64
import Derived.Laws.Entries
import Derived.Test.YtbfdgflbflajdaaGreatDoorProg
import Derived.WalkKit
import Derived.BigQuiet
import Derived.Deep.QuietTactic
import Derived.Deep.RegionHeld3
import Derived.Deep.DrawnRows
import Derived.WalkSmall
import Derived.RowKitTokens
import Derived.OwnWalk
namespace Go.Proofs.YtbfdgflbflajdaaGreatDoor
open Go

/-- How many addresses a prefix of Len n has (n from 0 to 32). -/
def pw (n : Int) : Int := 2 ^ (32 - n).toNat

theorem pw_nat (n : Int) : pw n = ((2 ^ (32 - n).toNat : Nat) : Int) := by unfold pw; simp
theorem pw_pos (n : Int) : 1 ≤ pw n := by
  rw [pw_nat]; have := Nat.two_pow_pos (32 - n).toNat; omega
theorem pw_le (n : Int) (h : 0 ≤ n) : pw n ≤ 4294967296 := by
  rw [pw_nat]
  have : 2 ^ (32 - n).toNat ≤ 2 ^ 32 := Nat.pow_le_pow_right (by decide) (by omega)
  omega
theorem pw_step (n : Int) (h : n < 32) : pw n = 2 * pw (n + 1) := by
  unfold pw
  rw [show (32 - n).toNat = (32 - (n + 1)).toNat + 1 by omega, Int.pow_succ]
  omega
theorem pw_32 : pw 32 = 1 := rfl
theorem pw_0 : pw 0 = 4294967296 := by decide
/-- a longer prefix's size divides a shorter one's. -/
theorem pw_dvd (m n : Int) (h : m ≤ n) (_ : n ≤ 32) : ∃ k : Int, 1 ≤ k ∧ pw m = k * pw n := by
  refine ⟨2 ^ (n - m).toNat, ?_, ?_⟩
  · have := Int.pow_pos (n := 2) (m := (n - m).toNat) (by decide); omega
  · unfold pw
    rw [← Int.pow_add, show (n - m).toNat + (32 - n).toNat = (32 - m).toNat by omega]

def isA (a : Int) : Bool := decide (0 ≤ a ∧ a < 4294967296)
def isL (n : Int) : Bool := decide (0 ≤ n ∧ n ≤ 32)
def rt (a n : Int) : Bool := decide ((0 ≤ a ∧ a < 4294967296) ∧ (0 ≤ n ∧ n ≤ 32) ∧ a % pw n = 0)
theorem isA_iff (a : Int) : isA a = true ↔ 0 ≤ a ∧ a < 4294967296 := by simp [isA]
theorem isL_iff (n : Int) : isL n = true ↔ 0 ≤ n ∧ n ≤ 32 := by simp [isL]
theorem rt_iff (a n : Int) : rt a n = true ↔ (0 ≤ a ∧ a < 4294967296) ∧ (0 ≤ n ∧ n ≤ 32) ∧ a % pw n = 0 := by simp [rt]

theorem shr32 (a : Int) : (a / 4294967296 == 0) = isA a := by
  rw [Bool.eq_iff_iff, isA_iff, beq_iff_eq]
  omega

/-- int's values below 2 to the 63 stand. -/
theorem wraps_i64 : ∀ n : Int, 0 ≤ n → n < 2 ^ 63 → IntKind.i64.wrap n = n := by
  intro n h0 h1
  rw [IntKind.wrap_i64]
  omega

theorem shl_pw (n : Int) (h0 : 0 ≤ n) (h1 : n ≤ 32) : (2 : Int) ^ min (32 - n).toNat 64 = pw n := by
  unfold pw
  rw [show min (32 - n).toNat 64 = (32 - n).toNat by omega]
theorem shr_pw (x n : Int) (h0 : 0 ≤ n) (h1 : n ≤ 32) : x / 2 ^ min (32 - n).toNat 64 = x / pw n := by
  rw [shl_pw n h0 h1]

theorem pw_form (n : Int) (h : 0 ≤ n) (h1 : n ≤ 32) : ∃ i : Nat, i ≤ 32 ∧ pw n = 2 ^ i ∧ pw n = ((2 ^ i : Nat) : Int) :=
  ⟨(32 - n).toNat, by omega, rfl, pw_nat n⟩

/-- a & (size - 1). -/
theorem and_rest (a n : Int) (ha : 0 ≤ a) (ha' : a < 4294967296) (h0 : 0 ≤ n) (h1 : n ≤ 32) : bits .and .i64 a (pw n - 1) = a % pw n := by
  obtain ⟨i, hi, e, -⟩ := pw_form n h0 h1
  rw [e]
  exact bits_mask .i64 63 (by decide) wraps_i64 i (by omega) a ha (by omega)

theorem bits_xor_nat (a b : Nat) (ha : a < 2 ^ 63) (hb : b < 2 ^ 63) : bits .xor .i64 (a : Int) (b : Int) = ((a ^^^ b : Nat) : Int) := by
  have h : a ^^^ b < 2 ^ 63 := Nat.xor_lt_two_pow ha hb
  show IntKind.i64.wrap ((BitVec.ofInt 64 (a : Int) ^^^ BitVec.ofInt 64 (b : Int)).toNat : Int) = _
  rw [BitVec.toNat_xor, BitVec.ofInt_natCast, BitVec.ofInt_natCast, BitVec.toNat_ofNat, BitVec.toNat_ofNat, Nat.mod_eq_of_lt (by omega), Nat.mod_eq_of_lt (by omega)]
  exact wraps_i64 _ (by omega) (by omega)

theorem xor_div (a b i : Nat) : (a ^^^ b) / 2 ^ i = 0 ↔ a / 2 ^ i = b / 2 ^ i := by
  rw [← Nat.shiftRight_eq_div_pow, ← Nat.shiftRight_eq_div_pow, ← Nat.shiftRight_eq_div_pow, Nat.shiftRight_xor_distrib]
  constructor
  · intro h; exact Nat.eq_of_testBit_eq fun j => by have := congrArg (fun z => z.testBit j) h; simpa [Nat.testBit_xor] using this
  · intro h; rw [h]; exact Nat.xor_self _

/-- (a ^ b) >> (32 - n) == 0. -/
theorem alike_eq (a b n : Int) (ha : 0 ≤ a) (ha' : a < 4294967296) (hb : 0 ≤ b) (hb' : b < 4294967296) (h0 : 0 ≤ n) (h1 : n ≤ 32) :
    (bits .xor .i64 a b / pw n == 0) = (a / pw n == b / pw n) := by
  obtain ⟨x, rfl⟩ := Int.eq_ofNat_of_zero_le ha
  obtain ⟨y, rfl⟩ := Int.eq_ofNat_of_zero_le hb
  obtain ⟨i, hi, -, e⟩ := pw_form n h0 h1
  rw [bits_xor_nat x y (by omega) (by omega), e, Bool.eq_iff_iff, beq_iff_eq, beq_iff_eq, ← Int.natCast_ediv, ← Int.natCast_ediv, ← Int.natCast_ediv]
  have := xor_div x y i
  constructor
  · intro h; rw [this.1 (by omega)]
  · intro h; rw [this.2 (by omega)]; rfl

/-- an address less the bits behind the first n. -/
theorem andNot_rest (a n : Int) (ha : 0 ≤ a) (ha' : a < 4294967296) (h0 : 0 ≤ n) (h1 : n ≤ 32) : bits .andNot .i64 a (pw n - 1) = a - a % pw n := by
  obtain ⟨x, rfl⟩ := Int.eq_ofNat_of_zero_le ha
  obtain ⟨i, hi, -, e⟩ := pw_form n h0 h1
  have hp := Nat.two_pow_pos i
  have hp32 : 2 ^ i ≤ 2 ^ 32 := Nat.pow_le_pow_right (by decide) hi
  have e2 : pw n - 1 = ((2 ^ i - 1 : Nat) : Int) := by rw [e]; omega
  show IntKind.i64.wrap ((BitVec.ofInt 64 (x : Int) &&& ~~~ BitVec.ofInt 64 (pw n - 1)).toNat : Int) = _
  rw [e2, e]
  have key : (BitVec.ofInt 64 (x : Int) &&& ~~~ BitVec.ofInt 64 ((2 ^ i - 1 : Nat) : Int)).toNat = x - x % 2 ^ i := by
    apply Nat.eq_of_testBit_eq
    intro j
    rw [BitVec.toNat_and, BitVec.toNat_not, BitVec.ofInt_natCast, BitVec.ofInt_natCast, BitVec.toNat_ofNat, BitVec.toNat_ofNat, Nat.mod_eq_of_lt (show x < 2 ^ 64 by omega), Nat.mod_eq_of_lt (show 2 ^ i - 1 < 2 ^ 64 by omega), Nat.testBit_and]
    have e3 : x - x % 2 ^ i = 2 ^ i * (x / 2 ^ i) := by have := Nat.div_add_mod x (2 ^ i); omega
    have e4 : 2 ^ 64 - 1 - (2 ^ i - 1) = 2 ^ 64 - (2 ^ i - 1 + 1) := by omega
    rw [e3, e4, Nat.testBit_two_pow_sub_succ (show 2 ^ i - 1 < 2 ^ 64 by omega), Nat.testBit_two_pow_sub_one, Nat.testBit_two_pow_mul, Nat.testBit_div_two_pow]
    by_cases hj : j < i
    · simp [hj, Nat.not_le.2 hj]
    · have hij : i ≤ j := by omega
      rw [show j - i + i = j by omega]
      by_cases h64 : j < 64
      · simp [hj, h64, hij]
      · have : x.testBit j = false := Nat.testBit_lt_two_pow (Nat.lt_of_lt_of_le (show x < 2 ^ 64 by omega) (Nat.pow_le_pow_right (by decide) (by omega)))
        simp [this]
  rw [key, wraps_i64 _ (by omega) (by omega)]
  have := Nat.mod_le x (2 ^ i)
  rw [← Int.natCast_emod]
  omega

/-- a prefix's address, and the bit behind its first n. -/
theorem or_next (a n : Int) (ha : 0 ≤ a) (ha' : a < 4294967296) (h0 : 0 ≤ n) (h1 : n < 32) (hm : a % pw n = 0) : bits .or .i64 a (pw (n + 1)) = a + pw (n + 1) := by
  obtain ⟨i, hi, e, e'⟩ := pw_form n h0 (by omega)
  have hs := pw_step n h1
  have hp := pw_pos (n + 1)
  have hl := pw_le n h0
  rw [e] at hm
  exact bits_join .i64 63 (by decide) wraps_i64 i a (pw (n + 1)) ha hm (by omega) (by omega) (by rw [← e]; omega) (by omega)
end Go.Proofs.YtbfdgflbflajdaaGreatDoor

namespace Go.Proofs.YtbfdgflbflajdaaGreatDoor
open Go.RowKit

theorem ret_int {k : IntKind} {a b : Int} (h : a = b) : Ending.returned (.int k a) = .returned (.int k b) := by rw [h]
theorem ret_bool {a b : Bool} (h : a = b) : Ending.returned (.bool a) = .returned (.bool b) := by rw [h]
theorem wrap64_id (x : Int) (h0 : -9223372036854775808 ≤ x) (h1 : x ≤ 9223372036854775807) : wrap64 x = x := by
  unfold wrap64; omega
theorem cell_lt' {w : World} {a : Addr} {v : Value} (h : w.cell? a = some v) : a.block < w.heap.size := by
  rcases Nat.lt_or_ge a.block w.heap.size with h' | h'
  · exact h'
  · simp [World.cell?, Array.getElem?_eq_none h'] at h
theorem cell_kept {w w' : World} (hb : Below w.heap.size w w') {p : Addr} {v : Value} (h : w.cell? p = some v) : w'.cell? p = some v := by
  rw [hb.cell (cell_lt' h)]; exact h
theorem bcell {W w1 : World} (hb : Below W.heap.size W w1) : (∀ b o, b < W.heap.size → w1.cell? ⟨b, o, none⟩ = W.cell? ⟨b, o, none⟩) ∧ (∀ b o, b < W.heap.size → w1.frozen? ⟨b, o, none⟩ = W.frozen? ⟨b, o, none⟩) :=
  ⟨fun b o h => hb.cell (p := ⟨b, o, none⟩) h, fun b o h => hb.frozen (p := ⟨b, o, none⟩) h⟩
theorem below_alloc (w : World) (o : Obj) : Below w.heap.size w (w.alloc o) := (Below.refl _ _).alloc (Nat.le_refl _) _
theorem box_at (W : World) (x y : Value) (t : TypeId) : (W.alloc (.cells #[x, y] t)).cell? ⟨W.heap.size, 0, none⟩ = some x ∧ (W.alloc (.cells #[x, y] t)).cell? ⟨W.heap.size, 1, none⟩ = some y := by
  constructor <;> (rw [World.cell?_alloc_at _ _ _ _ rfl]; rfl)
theorem box_at2 (W : World) (o : Obj) (x y : Value) (t : TypeId) : ((W.alloc o).alloc (.cells #[x, y] t)).cell? ⟨W.heap.size + 1, 0, none⟩ = some x ∧ ((W.alloc o).alloc (.cells #[x, y] t)).cell? ⟨W.heap.size + 1, 1, none⟩ = some y := by
  constructor <;> (rw [World.cell?_alloc_at _ _ _ _ (by simp)]; rfl)
theorem wrapi (x : Int) (h : -9223372036854775808 ≤ x ∧ x ≤ 9223372036854775807) : IntKind.i64.wrap x = x := by
  rw [IntKind.wrap_i64]
  omega
end Go.Proofs.YtbfdgflbflajdaaGreatDoor

namespace Go.Proofs.YtbfdgflbflajdaaGreatDoor
open Go.RowKit

/-- what a slice at p holds: whole numbers. -/
def Ints (w : World) (p : Option Addr) (L : List Int) : Prop :=
  ∀ i (h : i < L.length), ∃ b o, p = some ⟨b, o, none⟩ ∧ w.cell? ⟨b, o + i, none⟩ = some (.int .i64 L[i])
theorem Ints.below {w w' : World} {p : Option Addr} {L : List Int} (h : Ints w p L) (hb : Below w.heap.size w w') : Ints w' p L := fun i hi => by
  obtain ⟨b, o, e, c⟩ := h i hi
  exact ⟨b, o, e, cell_kept hb c⟩
theorem ints_nil (w : World) (p : Option Addr) : Ints w p [] := fun i hi => by simp at hi

set_option linter.unusedVariables false in
set_option maxRecDepth 100000 in
set_option maxHeartbeats 1000000 in
theorem rInInts_any (n : Int) (p : Option Addr) (L : List Int) (k cap : Nat) (w : World) (h : Ints w p L) (hk : k = L.length) (hl : L.length ≤ 1000000) :
    Calls Tryz.prog 16 #[.int .i64 n, .slice p k cap] w fun r w' => r = .returned (.bool (L.contains n)) ∧ Below w.heap.size w w' := by
  subst hk
  obtain ⟨HE⟩ : Nonempty (Hid (Ints w p L)) := ⟨h⟩
  obtain ⟨B, hB⟩ : ∃ b, Hid (w.heap.size = b) := ⟨_, show _ = _ from rfl⟩
  rw [show w.heap.size = B from hB.out]
  obtain ⟨cb, hcb⟩ : ∃ b, Hid (L.contains n = b) := ⟨_, show _ = _ from rfl⟩
  rw [show L.contains n = cb from hcb.out]
  clear h
  go_enter Tryz.func16, Tryz.ntmps16
  go_wp2_with fail
  go_loopw [5] (fun i wr => ∃ (j : Nat), i = .int .i64 j ∧ Hid ((∀ i (_ : i < j) (h : i < L.length), L[i] ≠ n) ∧ Below B w wr) ∧ j ≤ L.length) (fun i _ => L.length - (intOf i).toNat)
  case atStart => exact ⟨0, rfl, ⟨fun i h => by omega, Below.refl _ _⟩, Nat.zero_le _⟩
  case round =>
    obtain ⟨j, rfl, HK, hjl⟩ := hrel
    have hbw := HK.out.2
    rw [← show w.heap.size = B from hB.out] at hbw
    by_cases hlt : j < L.length
    · have q3 : (j : Int) < L.length := by omega
      obtain ⟨b, o, rfl, x0c⟩ := HE.out j hlt
      have d0 := cell_kept hbw x0c
      obtain ⟨x, hx⟩ : ∃ x, Hid (L[j] = x) := ⟨_, show _ = _ from rfl⟩
      rw [hx.out] at d0
      clear x0c hbw
      by_cases he : x = n
      · have he' : (x == n) = true := by rw [beq_iff_eq]; exact he
        obtain rfl : true = cb := by
          rw [← hcb.out]; symm
          rw [List.contains_iff_mem, ← he, ← hx.out]
          exact List.getElem_mem hlt
        go_wp2_with fail
        go_ret
        exact ⟨rfl, HK.out.2⟩
      · have he' : (x == n) = false := beq_eq_false_iff_ne.2 he
        obtain ⟨HN⟩ : Nonempty (Hid (∀ i (_ : i < j + 1) (h : i < L.length), L[i] ≠ n)) := ⟨fun i h1 h2 => by
          rcases Nat.lt_or_ge i j with h | h
          · exact HK.out.1 i h h2
          · obtain rfl : i = j := by omega
            rw [hx.out]; exact he⟩
        clear he
        go_wp2_with fail
        go_roundw
        case rel => exact ⟨j + 1, by go_num, ⟨HN.out, HK.out.2⟩, by omega⟩
        case measure => simp [intOf]; omega
    · obtain rfl : j = L.length := by omega
      clear hbw
      obtain rfl : false = cb := by
        rw [← hcb.out]; symm
        rw [← Bool.not_eq_true, List.contains_iff_mem]
        intro hm
        obtain ⟨i, hi, e⟩ := List.getElem_of_mem hm
        exact HK.out.1 i hi hi e
      go_wp2_with fail
      go_ret
      exact ⟨rfl, HK.out.2⟩

theorem ints_differ {L M : List Int} (j : Nat) (h1 : j < L.length) (h2 : j < M.length) (h : L[j] ≠ M[j]) : L ≠ M := by
  intro e; subst e; exact h rfl
set_option linter.unusedVariables false in
set_option maxRecDepth 100000 in
set_option maxHeartbeats 1000000 in
theorem rSameInts_any (p q : Option Addr) (L M : List Int) (k m cap cap' : Nat) (w : World) (h : Ints w p L) (h' : Ints w q M) (hk : k = L.length) (hm : m = M.length) (hl : L.length ≤ 1000000) (hl' : M.length ≤ 1000000) :
    Calls Tryz.prog 14 #[.slice p k cap, .slice q m cap'] w fun r w' => r = .returned (.bool (decide (L = M))) ∧ Below w.heap.size w w' := by
  subst hk hm
  obtain ⟨HE⟩ : Nonempty (Hid (Ints w p L ∧ Ints w q M)) := ⟨⟨h, h'⟩⟩
  obtain ⟨B, hB⟩ : ∃ b, Hid (w.heap.size = b) := ⟨_, show _ = _ from rfl⟩
  rw [show w.heap.size = B from hB.out]
  obtain ⟨cb, hcb⟩ : ∃ b, Hid (decide (L = M) = b) := ⟨_, show _ = _ from rfl⟩
  rw [show decide (L = M) = cb from hcb.out]
  clear h h'
  by_cases hlen : L.length = M.length
  · have hlen' : ((L.length : Int) == (M.length : Int)) = true := by rw [beq_iff_eq]; omega
    obtain ⟨HL⟩ : Nonempty (Hid (L.length = M.length)) := ⟨hlen⟩
    clear hlen
    go_enter Tryz.func14, Tryz.ntmps14
    go_wp2_with fail
    go_loopw [5] (fun i wr => ∃ (j : Nat), i = .int .i64 j ∧ Hid ((∀ i (_ : i < j) (h : i < L.length) (h2 : i < M.length), L[i] = M[i]) ∧ Below B w wr) ∧ j ≤ L.length) (fun i _ => L.length - (intOf i).toNat)
    case atStart => exact ⟨0, rfl, ⟨fun i h => by omega, Below.refl _ _⟩, Nat.zero_le _⟩
    case round =>
      obtain ⟨j, rfl, HK, hjl⟩ := hrel
      have hbw := HK.out.2
      rw [← show w.heap.size = B from hB.out] at hbw
      by_cases hlt : j < L.length
      · have q3 : (j : Int) < L.length := by omega
        have hlt2 : j < M.length := by rw [← HL.out]; exact hlt
        have q4 : (j : Int) < M.length := by omega
        obtain ⟨b, o, rfl, x0c⟩ := HE.out.1 j hlt
        obtain ⟨b', o', rfl, y0c⟩ := HE.out.2 j hlt2
        have d0 := cell_kept hbw x0c
        have d1 := cell_kept hbw y0c
        obtain ⟨x, hx⟩ : ∃ x, Hid (L[j] = x) := ⟨_, show _ = _ from rfl⟩
        obtain ⟨y, hy⟩ : ∃ x, Hid (M[j] = x) := ⟨_, show _ = _ from rfl⟩
        rw [hx.out] at d0
        rw [hy.out] at d1
        clear x0c y0c hbw
        by_cases he : x = y
        · have he' : (x == y) = true := by rw [beq_iff_eq]; exact he
          obtain ⟨HN⟩ : Nonempty (Hid (∀ i (_ : i < j + 1) (h : i < L.length) (h2 : i < M.length), L[i] = M[i])) := ⟨fun i h1 h2 h3 => by
            rcases Nat.lt_or_ge i j with h | h
            · exact HK.out.1 i h h2 h3
            · obtain rfl : i = j := by omega
              rw [hx.out, hy.out]; exact he⟩
          clear he
          go_wp2_with fail
          go_quiet (fail)
          go_wp2_with fail
          go_roundw
          case rel => first | exact ⟨j + 1, by go_num, ⟨HN.out, below_drewN HK.out.2 _⟩, by omega⟩ | ((repeat apply Exists.intro); exact ⟨⟨j + 1, by go_num, ⟨HN.out, below_drewN HK.out.2 _⟩, by omega⟩, rfl⟩)
          case measure => simp [intOf]; omega
        · have he' : (x == y) = false := beq_eq_false_iff_ne.2 he
          obtain rfl : false = cb := by
            rw [← hcb.out]; symm
            exact decide_eq_false (ints_differ j hlt hlt2 (by rw [hx.out, hy.out]; exact he))
          clear he
          go_wp2_with fail
          go_quiet (fail)
          go_wp2_with fail
          go_ret
          exact ⟨rfl, below_drewN HK.out.2 _⟩
      · obtain rfl : j = L.length := by omega
        clear hbw
        obtain rfl : true = cb := by
          rw [← hcb.out]; symm
          exact decide_eq_true (List.ext_getElem HL.out (fun i h1 h2 => HK.out.1 i h1 h1 h2))
        go_wp2_with fail
        go_ret
        exact ⟨rfl, HK.out.2⟩
  · have hlen' : ((L.length : Int) == (M.length : Int)) = false := by rw [beq_eq_false_iff_ne]; omega
    obtain rfl : false = cb := by
      rw [← hcb.out]; symm
      exact decide_eq_false (fun e => hlen (by rw [e]))
    clear hlen
    go_enter Tryz.func14, Tryz.ntmps14
    go_wp2_with fail
    go_ret
    exact ⟨rfl, Below.refl _ _⟩
end Go.Proofs.YtbfdgflbflajdaaGreatDoor

namespace Go.Proofs.YtbfdgflbflajdaaGreatDoor
open Go.RowKit
open scoped Classical

structure At where
  path : List Int
  pref : Int
  med : Int
  org : Int
  tags : List Int

/-- a value that holds what is told of a route. -/
def IsAttr (w : World) (v : Value) (A : At) : Prop :=
  ∃ p cp q cq, v = .agg #[.slice p A.path.length cp, .int .i64 A.pref, .int .i64 A.med, .int .i64 A.org, .slice q A.tags.length cq] ∧ Ints w p A.path ∧ Ints w q A.tags
theorem IsAttr.below {w w' : World} {v : Value} {A : At} (h : IsAttr w v A) (hb : Below w.heap.size w w') : IsAttr w' v A := by
  obtain ⟨p, cp, q, cq, e, h1, h2⟩ := h
  exact ⟨p, cp, q, cq, e, h1.below hb, h2.below hb⟩

theorem att_at (W : World) (a b c d e : Value) (t : TypeId) (o : Obj) : ((W.alloc (.cells #[a, b, c, d, e] t)).alloc o).cell? ⟨W.heap.size, 4, none⟩ = some e := by
  have h : (W.alloc (.cells #[a, b, c, d, e] t)).cell? ⟨W.heap.size, 4, none⟩ = some e := by rw [World.cell?_alloc_at _ _ _ _ rfl]; rfl
  exact cell_kept (below_alloc _ _) h
theorem att_at2 (W : World) (a b c d e : Value) (t : TypeId) (o : Obj) : ((W.alloc o).alloc (.cells #[a, b, c, d, e] t)).cell? ⟨W.heap.size + 1, 4, none⟩ = some e := by
  rw [World.cell?_alloc_at _ _ _ _ (by simp)]; rfl
theorem below_two (w : World) (o o' : Obj) : Below w.heap.size w ((w.alloc o).alloc o') := (below_alloc w o).trans ((below_alloc _ o').mono (below_alloc w o).size)
def longA (A : At) : Bool := decide (20 < A.path.length) || decide (15 < A.tags.length)

set_option linter.unusedVariables false in
set_option maxRecDepth 100000 in
set_option maxHeartbeats 1000000 in
theorem rLongAttr_any (v : Value) (A : At) (w : World) (h : IsAttr w v A) :
    Calls Tryz.prog 7 #[v] w fun r w' => r = .returned (.int .i64 (if longA A then 1 else 0)) ∧ Below w.heap.size w w' := by
  obtain ⟨p, cp, q, cq, rfl, -, -⟩ := h
  obtain ⟨P, f, m, o, T⟩ := A
  simp only
  by_cases h1 : 20 < P.length
  · have e1 : decide (20 < (P.length : Int)) = true := decide_eq_true (by omega)
    have eL : longA ⟨P, f, m, o, T⟩ = true := by simp [longA, h1]
    rw [eL]; clear eL
    go_enter Tryz.func7, Tryz.ntmps7
    go_wp2_with fail
    go_ret
    exact ⟨rfl, below_alloc _ _⟩
  · have e1 : decide (20 < (P.length : Int)) = false := decide_eq_false (by omega)
    by_cases h2 : 15 < T.length
    · have e2 : decide (15 < (T.length : Int)) = true := decide_eq_true (by omega)
      have eL : longA ⟨P, f, m, o, T⟩ = true := by simp [longA, h2]
      rw [eL]; clear eL
      go_enter Tryz.func7, Tryz.ntmps7
      go_wp2_with fail
      go_ret
      exact ⟨rfl, below_alloc _ _⟩
    · have e2 : decide (15 < (T.length : Int)) = false := decide_eq_false (by omega)
      have eL : longA ⟨P, f, m, o, T⟩ = false := by simp [longA]; omega
      rw [eL]; clear eL
      go_enter Tryz.func7, Tryz.ntmps7
      go_wp2_with fail
      go_ret
      exact ⟨rfl, below_alloc _ _⟩

set_option linter.unusedVariables false in
set_option maxRecDepth 100000 in
set_option maxHeartbeats 1000000 in
theorem rSameAttr_any (v v' : Value) (A A' : At) (w : World) (h : IsAttr w v A) (h' : IsAttr w v' A') (h1 : A.path.length ≤ 1000000) (h2 : A.tags.length ≤ 1000000) (h3 : A'.path.length ≤ 1000000) (h4 : A'.tags.length ≤ 1000000) :
    Calls Tryz.prog 22 #[v, v'] w fun r w' => r = .returned (.bool (decide (A = A'))) ∧ Below w.heap.size w w' := by
  obtain ⟨p, cp, q, cq, rfl, i1, i2⟩ := h
  obtain ⟨p', cp', q', cq', rfl, i3, i4⟩ := h'
  obtain ⟨P, f, m, o, T⟩ := A
  obtain ⟨P', f', m', o', T'⟩ := A'
  simp only at *
  have HC : Hid (∀ w', Below w.heap.size w w' → Calls _ _ _ _ _) := fun w' hb => rSameInts_any p p' P P' _ _ cp cp' w' (i1.below hb) (i3.below hb) rfl rfl h1 h3
  have HT : Hid (∀ w', Below w.heap.size w w' → Calls _ _ _ _ _) := fun w' hb => rSameInts_any q q' T T' _ _ cq cq' w' (i2.below hb) (i4.below hb) rfl rfl h2 h4
  obtain ⟨cb, hcb⟩ : ∃ b, Hid (decide ((⟨P, f, m, o, T⟩ : At) = ⟨P', f', m', o', T'⟩) = b) := ⟨_, show _ = _ from rfl⟩
  rw [show decide ((⟨P, f, m, o, T⟩ : At) = ⟨P', f', m', o', T'⟩) = cb from hcb.out]
  obtain ⟨HQ⟩ : Nonempty (Hid (cb = (decide (f = f') && decide (m = m') && decide (o = o') && decide (P = P') && decide (T = T')))) := ⟨by
    rw [← hcb.out]
    simp only [At.mk.injEq, ← Bool.decide_and, decide_eq_decide]
    constructor
    · rintro ⟨a, b, c, d, e⟩; exact ⟨⟨⟨⟨b, c⟩, d⟩, a⟩, e⟩
    · rintro ⟨⟨⟨⟨b, c⟩, d⟩, a⟩, e⟩; exact ⟨a, b, c, d, e⟩⟩
  clear i1 i2 i3 i4 h1 h2 h3 h4 hcb
  by_cases e1 : f = f'
  · have e1' : (f != f') = false := by simp [e1]
    by_cases e2 : m = m'
    · have e2' : (m != m') = false := by simp [e2]
      by_cases e3 : o = o'
      · have e3' : (o != o') = false := by simp [e3]
        by_cases e4 : P = P'
        · obtain ⟨HP⟩ : Nonempty (Hid (decide (P = P') = true)) := ⟨decide_eq_true e4⟩
          rw [show decide (P = P') = true from HP.out] at HC
          obtain rfl : decide (T = T') = cb := by rw [HQ.out]; simp [e1, e2, e3, e4]
          obtain ⟨tb, htb⟩ : ∃ b, Hid (decide (T = T') = b) := ⟨_, show _ = _ from rfl⟩
          rw [show decide (T = T') = tb from htb.out] at HT ⊢
          clear e1 e2 e3 e4 HQ
          go_enter Tryz.func22, Tryz.ntmps22
          go_wp2_with fail
          refine (HC.out _ (below_two _ _ _)).mono ?_
          rintro e w1 ⟨rfl, hb1⟩
          have d1 := cell_kept hb1 (att_at _ _ _ _ _ _ _ _)
          have d2 := cell_kept hb1 (att_at2 _ _ _ _ _ _ _ _)
          replace hb1 := (below_two _ _ _).trans (hb1.mono (below_two _ _ _).size)
          go_wp2_with fail
          refine (HT.out _ hb1).mono ?_
          rintro e w2 ⟨rfl, hb2⟩
          go_wp2_with fail
          go_ret
          exact ⟨rfl, hb1.trans (hb2.mono hb1.size)⟩
        · obtain ⟨HP⟩ : Nonempty (Hid (decide (P = P') = false)) := ⟨decide_eq_false e4⟩
          rw [show decide (P = P') = false from HP.out] at HC
          obtain rfl : false = cb := by rw [HQ.out]; simp [e4]
          clear e1 e2 e3 e4 HQ
          go_enter Tryz.func22, Tryz.ntmps22
          go_wp2_with fail
          refine (HC.out _ (below_two _ _ _)).mono ?_
          rintro e w1 ⟨rfl, hb1⟩
          replace hb1 := (below_two _ _ _).trans (hb1.mono (below_two _ _ _).size)
          go_wp2_with fail
          go_ret
          exact ⟨rfl, hb1⟩
      · have e3' : (o != o') = true := by simp [e3]
        obtain rfl : false = cb := by rw [HQ.out]; simp [e3]
        clear e1 e2 e3 HQ HC HT
        go_enter Tryz.func22, Tryz.ntmps22
        go_wp2_with fail
        go_ret
        exact ⟨rfl, below_two _ _ _⟩
    · have e2' : (m != m') = true := by simp [e2]
      obtain rfl : false = cb := by rw [HQ.out]; simp [e2]
      clear e1 e2 HQ HC HT
      go_enter Tryz.func22, Tryz.ntmps22
      go_wp2_with fail
      go_ret
      exact ⟨rfl, below_two _ _ _⟩
  · have e1' : (f != f') = true := by simp [e1]
    obtain rfl : false = cb := by rw [HQ.out]; simp [e1]
    clear e1 HQ HC HT
    go_enter Tryz.func22, Tryz.ntmps22
    go_wp2_with fail
    go_ret
    exact ⟨rfl, below_two _ _ _⟩
end Go.Proofs.YtbfdgflbflajdaaGreatDoor

namespace Go.Proofs.YtbfdgflbflajdaaGreatDoor
open Go.RowKit

/-- the first number below n of which it holds, or n. -/
def firstN (bad : Nat → Bool) : Nat → Nat
  | 0 => 0
  | n + 1 => if firstN bad n < n then firstN bad n else if bad n then n else n + 1
theorem firstN_spec (bad : Nat → Bool) (n : Nat) : firstN bad n ≤ n ∧ (∀ j, j < firstN bad n → bad j = false) ∧ (firstN bad n < n → bad (firstN bad n) = true) := by
  induction n with
  | zero => exact ⟨Nat.le_refl _, fun j h => by simp [firstN] at h, fun h => by simp at h⟩
  | succ n ih =>
    obtain ⟨a, b, c⟩ := ih
    unfold firstN
    by_cases h : firstN bad n < n
    · rw [if_pos h]; exact ⟨by omega, b, fun _ => c h⟩
    · rw [if_neg h]
      have e : firstN bad n = n := by omega
      rw [e] at b
      cases hb : bad n with
      | true => simp only [if_true]; exact ⟨by omega, b, fun _ => hb⟩
      | false =>
        refine ⟨by simp, fun j hj => ?_, fun h => by simp at h⟩
        have hj' : j < n + 1 := by simpa using hj
        rcases Nat.lt_or_ge j n with h | h
        · exact b j h
        · obtain rfl : j = n := by omega
          exact hb
/-- where k is reached with nothing bad before it, it is at most the first. -/
theorem firstN_step {bad : Nat → Bool} {n k : Nat} (hk : k ≤ firstN bad n) (hn : k < n) (hb : bad k = false) : k + 1 ≤ firstN bad n := by
  obtain ⟨-, -, c⟩ := firstN_spec bad n
  rcases Nat.lt_or_ge k (firstN bad n) with h | h
  · omega
  · have e : firstN bad n = k := by omega
    rw [e] at c
    rw [c hn] at hb
    cases hb
theorem firstN_here {bad : Nat → Bool} {n k : Nat} (hk : k ≤ firstN bad n) (hb : bad k = true) : firstN bad n = k := by
  obtain ⟨-, b, -⟩ := firstN_spec bad n
  rcases Nat.lt_or_ge k (firstN bad n) with h | h
  · rw [b k h] at hb; cases hb
  · omega
theorem firstN_end {bad : Nat → Bool} {n : Nat} (hk : n ≤ firstN bad n) : firstN bad n = n := by
  have := (firstN_spec bad n).1; omega

def outB (x hi : Int) : Bool := decide (x < 1) || decide (hi < x)
def badP (P : List Int) (j : Nat) : Bool := outB (P.getD j 0) 1000
def badT (T : List Int) (j : Nat) : Bool := outB (T.getD j 0) 9999 || (decide (0 < j) && decide (T.getD j 0 ≤ T.getD (j - 1) 0))
def fullA (A : At) : Bool := decide (12 < A.path.length) || decide (8 < A.tags.length)
def numsA (A : At) : Bool := (decide (A.pref < 0) || decide (1000 < A.pref) || decide (A.med < 0) || decide (1000 < A.med)) || (decide (A.org < 0) || decide (2 < A.org))
/-- the number and the place of the first fault; (0, -1) where there is none. -/
def faultA (A : At) : Int × Int :=
  if fullA A then (7, -1)
  else if firstN (badP A.path) A.path.length < A.path.length then (2, firstN (badP A.path) A.path.length)
  else if numsA A then (2, -1)
  else if firstN (badT A.tags) A.tags.length < A.tags.length then
    (if outB (A.tags.getD (firstN (badT A.tags) A.tags.length) 0) 9999 then (2, firstN (badT A.tags) A.tags.length) else (8, firstN (badT A.tags) A.tags.length))
  else (0, -1)

theorem below_boxA (w : World) (x y u v : Value) (t : TypeId) : Below w.heap.size w (((w.alloc (.cells #[x, y] t)).setCell ⟨w.heap.size, 0, none⟩ u).setCell ⟨w.heap.size, 1, none⟩ v) :=
  ((below_alloc w _).setCell (Nat.le_refl _) _).setCell (Nat.le_refl _) _
theorem aFine_any (w : World) : Calls Tryz.prog 55 #[] w fun e w' => e = .returned (.agg #[.int .i64 0, .int .i64 (-1)]) ∧ Below w.heap.size w w' := by
  go_enter Tryz.func55, Tryz.ntmps55
  go_wp2
  exact bodyPost_ret (v := .agg #[.int .i64 0, .int .i64 (-1)]) (by simp [results, Tryz.results55, go_sem]) rfl ⟨rfl, by first | exact below_boxA _ _ _ _ _ _ | exact below_alloc _ _⟩
theorem aBare_any (c : Int) (w : World) : Calls Tryz.prog 54 #[.int .i64 c] w fun e w' => e = .returned (.agg #[.int .i64 c, .int .i64 (-1)]) ∧ Below w.heap.size w w' := by
  go_enter Tryz.func54, Tryz.ntmps54
  go_wp2
  exact bodyPost_ret (v := .agg #[.int .i64 c, .int .i64 (-1)]) (by simp [results, Tryz.results54, go_sem]) rfl ⟨rfl, by first | exact below_boxA _ _ _ _ _ _ | exact below_alloc _ _⟩
end Go.Proofs.YtbfdgflbflajdaaGreatDoor
