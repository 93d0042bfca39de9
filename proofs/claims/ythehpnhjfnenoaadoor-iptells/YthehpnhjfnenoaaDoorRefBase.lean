/-
  Check's answer as the number of an error; a box that was just made.
-/
import Derived.Test.YthehpnhjfnenoaaDoorIp2
namespace Go.Proofs.YthehpnhjfnenoaaDoor
open Go.RowKit

/-- Check, as a number of an error. -/
def chkC (a n : Int) : Nat := if isA a = true ∧ isL n = true then (if a % pw n = 0 then 0 else 3) else 2
def errV (et eb es : Addr) : Nat → Value
  | 0 => .nilIface
  | 1 => .iface 72 (.pointer (some et))
  | 2 => .iface 72 (.pointer (some eb))
  | _ => .iface 72 (.pointer (some es))
theorem chk_errV (a n : Int) (et eb es : Addr) : chk a n eb es = errV et eb es (chkC a n) := by
  unfold chk chkC
  split
  · split <;> rfl
  · rfl
theorem chkC_rt (a n : Int) (h : rt a n = true) : chkC a n = 0 := by
  obtain ⟨h1, h2, h3⟩ := (rt_iff a n).1 h
  unfold chkC
  rw [if_pos ⟨(isA_iff a).2 h1, (isL_iff n).2 h2⟩, if_pos h3]
theorem rt_isL {a n : Int} (h : rt a n = true) : isL n = true := (isL_iff n).2 (rt_len h)
end Go.Proofs.YthehpnhjfnenoaaDoor
