/-
  What the walk of herepathlaw1.IpTells carries along; its callees by their contracts, each answer a letter that ip and the document's answer share.
-/
import Derived.Test.YthehpnhjfnenoaaDoorRefPref
import Derived.Test.YthehpnhjfnenoaaDoorRef3
import Derived.Test.YthehpnhjfnenoaaDoorRef5
import Derived.Test.YthehpnhjfnenoaaDoorAddressed
import Derived.Test.YthehpnhjfnenoaaDoorHalvesArms
import Derived.Test.YthehpnhjfnenoaaDoorLaid
import Derived.Deep.Cut
import Derived.Deep.CutRange
import Derived.BigQuiet
namespace Go.Proofs.YthehpnhjfnenoaaDoor
open Go.RowKit

/-- the conditions, in the world in which the call began. -/
structure TwAll (w : World) (a : Nat → Addr) (m : Int) : Prop where
  laid : ErrsLaid w a
  env : IpEnv w (a 0) (a 1) (a 2) m
/-- two prefixes in boxes of the call's own. -/
structure Tw (w w' : World) (pa pn qa qn : Int) : Prop where
  p0 : w'.cell? ⟨w.heap.size, 0, none⟩ = some (.int .i64 pa)
  p1 : w'.cell? ⟨w.heap.size, 1, none⟩ = some (.int .i64 pn)
  q0 : w'.cell? ⟨w.heap.size + 1, 0, none⟩ = some (.int .i64 qa)
  q1 : w'.cell? ⟨w.heap.size + 1, 1, none⟩ = some (.int .i64 qn)
  hb : Below w.heap.size w w'
section
variable {w w1 w2 : World} {pa pn qa qn : Int}
theorem Tw.below (h : Tw w w1 pa pn qa qn) (hb : Below w1.heap.size w1 w2) : Tw w w2 pa pn qa qn :=
  ⟨cell_kept hb h.p0, cell_kept hb h.p1, cell_kept hb h.q0, cell_kept hb h.q1, h.hb.trans (hb.mono h.hb.size)⟩
theorem Tw.alloc (h : Tw w w1 pa pn qa qn) (o : Obj) : Tw w (w1.alloc o) pa pn qa qn := h.below (below_alloc _ _)
theorem Tw.drew (h : Tw w w1 pa pn qa qn) : Tw w w1.drew pa pn qa qn := h.below (Below.refl _ _).drew
theorem Tw.set (h : Tw w w1 pa pn qa qn) {b : Nat} (hb : w.heap.size + 1 < b) (x y : Value) : Tw w ((w1.setCell ⟨b, 0, none⟩ x).setCell ⟨b, 1, none⟩ y) pa pn qa qn :=
  ⟨setCell_kept h.p0 (show w.heap.size ≠ b by omega) x y, setCell_kept h.p1 (show w.heap.size ≠ b by omega) x y, setCell_kept h.q0 (show w.heap.size + 1 ≠ b by omega) x y, setCell_kept h.q1 (show w.heap.size + 1 ≠ b by omega) x y,
    (h.hb.setCell (show w.heap.size ≤ b by omega) _).setCell (show w.heap.size ≤ b by omega) _⟩
theorem Tw.laid (h : Tw w w1 pa pn qa qn) {a : Nat → Addr} {m : Int} (A : TwAll w a m) : ErrsLaid w1 a := A.laid.below h.hb
theorem Tw.env (h : Tw w w1 pa pn qa qn) {a : Nat → Addr} {m : Int} (A : TwAll w a m) : IpEnv w1 (a 0) (a 1) (a 2) m := A.env.below h.hb
end
theorem tw_mk (w : World) (pa pn qa qn : Int) : Tw w ((w.alloc (.cells #[.int .i64 pa, .int .i64 pn] 36)).alloc (.cells #[.int .i64 qa, .int .i64 qn] 36)) pa pn qa qn := by
  have h := two_mk w pa pn qa qn
  exact ⟨h.q0, h.q1, h.p0, h.p1, h.hb⟩

/-- an error, and its number. -/
def isErr (a : Nat → Addr) (v : Value) (c : Int) : Prop := ∃ k : Nat, k ≤ 3 ∧ v = errV (a 0) (a 1) (a 2) k ∧ c = (k : Int)
theorem coded_at (a : Nat → Addr) (v : Value) (c : Int) (h : Hid (isErr a v c)) (w : World) (hL : ErrsLaid w a) :
    Calls Tryd.prog 10 #[v, .int .i64 c] w fun ev w' => ev = .returned (.bool true) ∧ Below w.heap.size w w' := by
  obtain ⟨k, hk, rfl, rfl⟩ := h.out
  have h3 : k = 0 ∨ k = 1 ∨ k = 2 ∨ k = 3 := by omega
  rcases h3 with rfl | rfl | rfl | rfl
  · exact (coded_nil 0 w).mono fun e w' ⟨he, hw⟩ => ⟨by rw [he]; rfl, by rw [hw]; exact Below.refl _ _⟩
  · exact (coded_plain 0 1 a w hL (by omega)).mono fun e w' ⟨he, hb⟩ => ⟨by rw [he]; rfl, hb⟩
  · exact (coded_plain 1 2 a w hL (by omega)).mono fun e w' ⟨he, hb⟩ => ⟨by rw [he]; rfl, hb⟩
  · exact (coded_plain 2 3 a w hL (by omega)).mono fun e w' ⟨he, hb⟩ => ⟨by rw [he]; rfl, hb⟩
theorem chkC_le (a n : Int) : chkC a n ≤ 3 := by unfold chkC; split <;> (try split) <;> omega
theorem rdR_le (ps : List (List UInt8)) : (rdR ps).2.2 ≤ 3 := by
  rcases rdR_cases ps with ⟨-, h⟩ | ⟨x0, x1, -, ⟨-, h⟩ | ⟨a, -, ⟨-, h⟩ | ⟨-, ⟨-, h⟩ | ⟨-, h⟩⟩⟩⟩ <;> rw [h]
  all_goals first | (show (1 : Nat) ≤ 3; omega) | (show (0 : Nat) ≤ 3; omega) | exact chkC_le _ _

/-- texts. -/
def txtA (a : Int) : ByteArray := if isA a = true then ⟨(txt4 a).toArray⟩ else ⟨#[]⟩
def txtQ (a n : Int) : ByteArray := if rt a n = true then ⟨(txtP a n).toArray⟩ else ⟨#[]⟩
theorem addrText_t (a : Int) (t : ByteArray) (ht : Hid (txtA a = t)) (et eb es : Addr) (m : Int) (w : World) (h : IpEnv w et eb es m) :
    Calls Tryd.prog 25 #[.int .i64 a] w fun e w' => e = .returned (.string t) ∧ Below w.heap.size w w' := by
  rw [← ht.out]
  unfold txtA
  cases hA : isA a with
  | true => rw [if_pos rfl]; exact addrText_any a et eb es m w h hA
  | false => rw [if_neg (by decide)]; exact (addrText_none a w hA).mono fun e w' ⟨he, hw⟩ => ⟨he, by rw [hw]; exact Below.refl _ _⟩
theorem rAddrText_t (a : Int) (t : ByteArray) (ht : Hid (txtA a = t)) (w : World) :
    Calls Tryd.prog 26 #[.int .i64 a] w fun e w' => e = .returned (.string t) ∧ Below w.heap.size w w' := by
  rw [← ht.out]
  unfold txtA
  cases hA : isA a with
  | true => rw [if_pos rfl]; exact rAddrText_any a w hA
  | false => rw [if_neg (by decide)]; exact rAddrText_none a w hA
theorem text_none (a n : Int) (et eb es : Addr) (w : World) (h : IpErrs w et eb es) (hr : rt a n = false) :
    Calls Tryd.prog 22 #[.agg #[.int .i64 a, .int .i64 n]] w fun e w' => e = .returned (.string ⟨#[]⟩) ∧ Below w.heap.size w w' := by
  have HR : Hid (Calls Tryd.prog 49 #[.agg #[.int .i64 a, .int .i64 n]] (w.alloc (.cells #[.int .i64 a, .int .i64 n] 36)) fun e w' => e = .returned (.bool false) ∧ Below (w.alloc (.cells #[.int .i64 a, .int .i64 n] 36)).heap.size (w.alloc (.cells #[.int .i64 a, .int .i64 n] 36)) w') := by
    have := right_any a n et eb es _ (h.alloc (.cells #[.int .i64 a, .int .i64 n] 36))
    rw [hr] at this
    exact this
  clear h
  go_enter Tryd.func22, Tryd.ntmps22
  go_wp2_with fail
  refine HR.out.mono ?_
  rintro e w1 ⟨rfl, hb1⟩
  go_wp2_with fail
  go_ret
  exact ⟨rfl, (below_alloc w _).trans (hb1.mono (by simp))⟩
theorem text_t (a n : Int) (t : ByteArray) (ht : Hid (txtQ a n = t)) (et eb es : Addr) (m : Int) (w : World) (h : IpEnv w et eb es m) :
    Calls Tryd.prog 22 #[.agg #[.int .i64 a, .int .i64 n]] w fun e w' => e = .returned (.string t) ∧ Below w.heap.size w w' := by
  rw [← ht.out]
  unfold txtQ
  cases hr : rt a n with
  | true => rw [if_pos rfl]; exact text_any a n et eb es m w h hr
  | false => rw [if_neg (by decide)]; exact text_none a n et eb es w h.errs hr
theorem rPrefixText_t (a n : Int) (t : ByteArray) (ht : Hid (txtQ a n = t)) (w : World) :
    Calls Tryd.prog 29 #[.agg #[.int .i64 a, .int .i64 n]] w fun e w' => e = .returned (.string t) ∧ Below w.heap.size w w' := by
  rw [← ht.out]
  unfold txtQ
  cases hr : rt a n with
  | true => rw [if_pos rfl]; exact rPrefixText_any a n w hr
  | false => rw [if_neg (by decide)]; exact rPrefixText_none a n w hr
/-- Read, Check, Cut. -/
theorem read_t (s : ByteArray) (x y : Int) (v : Value) (et eb es : Addr) (m : Int) (w : World) (h : IpEnv w et eb es m) (hs : s.size < 4294967281) (hv : Hid (rdP s = (x, y, (rdP s).2.2) ∧ errV et eb es (rdP s).2.2 = v)) :
    Calls Tryd.prog 21 #[.string s] w fun e w' => e = .returned (.tuple #[.agg #[.int .i64 x, .int .i64 y], v]) ∧ Below w.heap.size w w' := by
  have := read_any s et eb es m w h hs
  rw [hv.out.2, show (rdP s).1 = x by rw [hv.out.1], show (rdP s).2.1 = y by rw [hv.out.1]] at this
  exact this
theorem check_t (a n : Int) (v : Value) (et eb es : Addr) (hv : Hid (chk a n eb es = v)) (w : World) (hE : IpErrs w et eb es) :
    Calls Tryd.prog 13 #[.agg #[.int .i64 a, .int .i64 n]] w fun e w' => e = .returned v ∧ Below w.heap.size w w' := by
  rw [← hv.out]
  exact check_any a n et eb es w hE
/-- what Cut comes to. -/
theorem cut_t (a n : Int) (e : Nat → Addr) : ∃ (ca cn : Int) (v : Value) (c : Int), Hid (isErr e v c) ∧
    Hid (∀ w : World, IpErrs w (e 0) (e 1) (e 2) → Calls Tryd.prog 20 #[.int .i64 a, .int .i64 n] w fun ev w' => ev = .returned (.tuple #[.agg #[.int .i64 ca, .int .i64 cn], v]) ∧ Below w.heap.size w w') ∧
    Hid (∀ w : World, Calls Tryd.prog 30 #[.int .i64 a, .int .i64 n] w fun ev w' => ev = .returned (.tuple #[.agg #[.int .i64 ca, .int .i64 cn], .int .i64 c]) ∧ Below w.heap.size w w') := by
  by_cases h : isA a = true ∧ isL n = true
  · refine ⟨a - a % pw n, n, .nilIface, 0, ⟨0, by omega, rfl, rfl⟩, fun w _ => cut_ok a n _ w h.1 h.2 (show _ = _ from rfl), fun w => ?_⟩
    have := rCutOf_any a n w
    rw [if_pos h] at this
    exact this
  · refine ⟨0, 0, .iface 72 (.pointer (some (e 1))), 2, ⟨2, by omega, rfl, rfl⟩, fun w hE => cut_bad a n (e 0) (e 1) (e 2) w hE ?_, fun w => ?_⟩
    · cases hA : isA a with
      | false => exact Or.inl rfl
      | true => exact Or.inr ⟨rfl, by cases hL : isL n with
        | false => rfl
        | true => exact absurd ⟨hA, hL⟩ h⟩
    · have := rCutOf_any a n w
      rw [if_neg h] at this
      exact this
theorem has_t (p n a : Int) (b : Bool) (hb : Hid (hasB p n a = b)) (et eb es : Addr) (w : World) (hE : IpErrs w et eb es) :
    Calls Tryd.prog 15 #[.agg #[.int .i64 p, .int .i64 n], .int .i64 a] w fun e w' => e = .returned (.bool b) ∧ Below w.heap.size w w' := by
  rw [← hb.out]; exact has_any p n a et eb es w hE
theorem less_t (aa an ba bn : Int) (b : Bool) (hb : Hid (lessB aa an ba bn = b)) (et eb es : Addr) (w : World) (hE : IpErrs w et eb es) :
    Calls Tryd.prog 16 #[.agg #[.int .i64 aa, .int .i64 an], .agg #[.int .i64 ba, .int .i64 bn]] w fun e w' => e = .returned (.bool b) ∧ Below w.heap.size w w' := by
  rw [← hb.out]; exact less_any aa an ba bn et eb es w hE
theorem in_t (qa qn pa pn : Int) (b : Bool) (hb : Hid (inB qa qn pa pn = b)) (et eb es : Addr) (w : World) (hE : IpErrs w et eb es) :
    Calls Tryd.prog 19 #[.agg #[.int .i64 qa, .int .i64 qn], .agg #[.int .i64 pa, .int .i64 pn]] w fun e w' => e = .returned (.bool b) ∧ Below w.heap.size w w' := by
  rw [← hb.out]; exact in_any qa qn pa pn et eb es w hE
theorem rHas_t (p n a : Int) (b : Bool) (hb : Hid (hasB p n a = b)) (w : World) :
    Calls Tryd.prog 31 #[.agg #[.int .i64 p, .int .i64 n], .int .i64 a] w fun e w' => e = .returned (.bool b) ∧ Below w.heap.size w w' := by
  rw [← hb.out]; exact rHasAddr_any p n a w
theorem rLess_t (aa an ba bn : Int) (b : Bool) (hb : Hid (lessB aa an ba bn = b)) (w : World) :
    Calls Tryd.prog 33 #[.agg #[.int .i64 aa, .int .i64 an], .agg #[.int .i64 ba, .int .i64 bn]] w fun e w' => e = .returned (.bool b) ∧ Below w.heap.size w w' := by
  rw [← hb.out]; exact rIsLess_any aa an ba bn w
theorem rIn_t (qa qn pa pn : Int) (b : Bool) (hb : Hid (inB qa qn pa pn = b)) (w : World) :
    Calls Tryd.prog 32 #[.agg #[.int .i64 qa, .int .i64 qn], .agg #[.int .i64 pa, .int .i64 pn]] w fun e w' => e = .returned (.bool b) ∧ Below w.heap.size w w' := by
  rw [← hb.out]; exact rIsIn_any qa qn pa pn w
end Go.Proofs.YthehpnhjfnenoaaDoor
