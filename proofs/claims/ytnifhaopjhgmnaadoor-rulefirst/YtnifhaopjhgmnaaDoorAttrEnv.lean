/-
  What package attr leans on: its errors, errors' handle, strconv's table, bytealg's MaxLen; errors by numbers; within, isSystem, isTag.
-/
import Derived.Test.YtnifhaopjhgmnaaDoorGB
import Derived.Test.YtnifhaopjhgmnaaDoorCode
import Derived.Test.YtnifhaopjhgmnaaDoorShelf
namespace Go.Proofs.YtnifhaopjhgmnaaDoor
open Go.RowKit

/-- an error's value by its number. -/
def ev (E : Nat → Addr) : Nat → Value
  | 0 => .nilIface
  | c + 1 => .iface 117 (.pointer (some (E c)))
set_option linter.unusedVariables false in
structure AttrEnv (w : World) (E : Nat → Addr) (m : Int) : Prop where
  bound : w.cell? ⟨1, 0, none⟩ = some (.iface 117 (.pointer (some (E 1))))
  full : w.cell? ⟨0, 0, none⟩ = some (.iface 117 (.pointer (some (E 6))))
  order : w.cell? ⟨4, 0, none⟩ = some (.iface 117 (.pointer (some (E 7))))
  hand : w.cell? ⟨3, 0, none⟩ = some (.iface 97 (.agg #[.pointer (some ⟨5, 31, none⟩)]))
theorem AttrEnv.below {w w' : World} {E : Nat → Addr} {m : Int} (h : AttrEnv w E m) (hb : Below w.heap.size w w') : AttrEnv w' E m where
  bound := cell_kept hb h.bound
  full := cell_kept hb h.full
  order := cell_kept hb h.order
  hand := cell_kept hb h.hand
/-- an error with its number and its place (-1: none). -/
def IsErr (w : World) (E : Nat → Addr) (v : Value) (c : Nat) (at0 : Int) : Prop :=
  (at0 = -1 ∧ v = ev E c) ∨ (0 ≤ at0 ∧ 0 < c ∧ ∃ b, v = .iface 62 (.pointer (some ⟨b, 0, none⟩)) ∧ w.cell? ⟨b, 0, none⟩ = some (.int .i64 at0) ∧ w.cell? ⟨b, 1, none⟩ = some (ev E c))
theorem IsErr.below {w w' : World} {E : Nat → Addr} {v : Value} {c : Nat} {at0 : Int} (h : IsErr w E v c at0) (hb : Below w.heap.size w w') : IsErr w' E v c at0 := by
  rcases h with h | ⟨h0, h1, b, e, x, y⟩
  · exact .inl h
  · exact .inr ⟨h0, h1, b, e, cell_kept hb x, cell_kept hb y⟩
theorem isErr_nil (w : World) (E : Nat → Addr) : IsErr w E .nilIface 0 (-1) := .inl ⟨rfl, rfl⟩

def inB3 (n a b : Int) : Bool := decide (a ≤ n) && decide (n ≤ b)
theorem within_any (n a b : Int) (w : World) : Calls Tryd.prog 21 #[.int .i64 n, .int .i64 a, .int .i64 b] w fun r w' => r = .returned (.bool (inB3 n a b)) ∧ w' = w := by
  unfold inB3
  cases h1 : decide (a ≤ n) with
  | false =>
    go_enter Tryd.func21, Tryd.ntmps21
    go_wp2
    go_ret
    exact ⟨rfl, rfl⟩
  | true =>
    cases h2 : decide (n ≤ b) with
    | false =>
      go_enter Tryd.func21, Tryd.ntmps21
      go_wp2
      go_ret
      exact ⟨rfl, rfl⟩
    | true =>
      go_enter Tryd.func21, Tryd.ntmps21
      go_wp2
      go_ret
      exact ⟨rfl, rfl⟩
theorem isSystem_any (n : Int) (w : World) : Calls Tryd.prog 48 #[.int .i64 n] w fun r w' => r = .returned (.bool (inB3 n 1 1000)) ∧ w' = w := by
  go_enter Tryd.func48, Tryd.ntmps48
  go_wp2_with fail
  refine (within_any n 1 1000 w).mono ?_
  rintro e w1 ⟨rfl, rfl⟩
  go_wp2_with fail
  go_ret
  exact ⟨rfl, rfl⟩
theorem isTag_any (n : Int) (w : World) : Calls Tryd.prog 44 #[.int .i64 n] w fun r w' => r = .returned (.bool (inB3 n 1 9999)) ∧ w' = w := by
  go_enter Tryd.func44, Tryd.ntmps44
  go_wp2_with fail
  refine (within_any n 1 9999 w).mono ?_
  rintro e w1 ⟨rfl, rfl⟩
  go_wp2_with fail
  go_ret
  exact ⟨rfl, rfl⟩
theorem inB3_out (x hi : Int) : outB x hi = !(inB3 x 1 hi) := by
  unfold outB inB3
  simp only [Bool.not_and, ← decide_not, Int.not_le]

/-- a question of a place, as a function of the program's with one captured variable: the number of the error that it answers. -/
structure Asked (f : Nat) (cv : Value) (E : Nat → Addr) (n : Nat) (q : Nat → Nat) (w : World) : Prop where
  enters : ∀ args w, (callFunc f args).run Tryd.prog w = .ok (.enter f args) w
  says : ∀ k W, k < n → Below w.heap.size w W → Calls Tryd.prog f #[.int .i64 (k : Int), cv] W fun r w' => r = .returned (ev E (q k)) ∧ Below W.heap.size W w'
theorem fault_box (W : World) (i : Int) (v : Value) : (W.alloc (.cells #[.int .i64 i, v] 64)).cell? ⟨W.heap.size, 0, none⟩ = some (.int .i64 i) ∧ (W.alloc (.cells #[.int .i64 i, v] 64)).cell? ⟨W.heap.size, 1, none⟩ = some v := box_at W _ _ _
/-- the first of n at which a question answers an error: its number and its place. -/
def firstQ (q : Nat → Nat) (n : Nat) : Nat × Int :=
  if firstN (fun k => decide (q k ≠ 0)) n < n then (q (firstN (fun k => decide (q k ≠ 0)) n), (firstN (fun k => decide (q k ≠ 0)) n : Int)) else (0, -1)

end Go.Proofs.YtnifhaopjhgmnaaDoor
