/-
  What package attr leans on: its errors, errors' handle, strconv's table, bytealg's MaxLen; errors by numbers; within, isSystem, isTag.
-/
import Derived.Test.YtbfdgflbflajdaaGreatDoorGB
import Derived.Test.YtbfdgflbflajdaaGreatDoorCode
import Derived.Test.YtbfdgflbflajdaaGreatDoorShelf
namespace Go.Proofs.YtbfdgflbflajdaaGreatDoor
open Go.RowKit

/-- an error's value by its number. -/
def ev (E : Nat → Addr) : Nat → Value
  | 0 => .nilIface
  | c + 1 => .iface 224 (.pointer (some (E c)))
set_option linter.unusedVariables false in
structure AttrEnv (w : World) (E : Nat → Addr) (m : Int) : Prop where
  txt : w.cell? ⟨2, 0, none⟩ = some (.iface 224 (.pointer (some (E 0))))
  bound : w.cell? ⟨1, 0, none⟩ = some (.iface 224 (.pointer (some (E 1))))
  full : w.cell? ⟨0, 0, none⟩ = some (.iface 224 (.pointer (some (E 6))))
  order : w.cell? ⟨3, 0, none⟩ = some (.iface 224 (.pointer (some (E 7))))
  hand : w.cell? ⟨9, 0, none⟩ = some (.iface 182 (.agg #[.pointer (some ⟨16, 28, none⟩)]))
  max : w.cell? ⟨10, 0, none⟩ = some (.int .i64 m)
  tab : Lib.TabIs Tryz.prog w "internal/strconv.uint64pow10" .u64 Lib.pow10Tab
theorem aGtab : Tryz.prog.globalNamed "internal/strconv.uint64pow10" = some 11 := by kernel_rfl
theorem aTab_lt {w : World} (h : Lib.TabIs Tryz.prog w "internal/strconv.uint64pow10" .u64 Lib.pow10Tab) : 11 < w.heap.size := by
  have h' : w.var? Tryz.prog "internal/strconv.uint64pow10" = some _ := h
  unfold World.var? at h'
  simp only [aGtab, Option.bind_some] at h'
  rcases Nat.lt_or_ge 11 w.heap.size with h2 | h2
  · exact h2
  · simp [Array.getElem?_eq_none h2] at h'
theorem AttrEnv.below {w w' : World} {E : Nat → Addr} {m : Int} (h : AttrEnv w E m) (hb : Below w.heap.size w w') : AttrEnv w' E m where
  txt := cell_kept hb h.txt
  bound := cell_kept hb h.bound
  full := cell_kept hb h.full
  order := cell_kept hb h.order
  hand := cell_kept hb h.hand
  max := cell_kept hb h.max
  tab := var?_below hb aGtab (aTab_lt h.tab) h.tab
/-- an error with its number and its place (-1: none). -/
def IsErr (w : World) (E : Nat → Addr) (v : Value) (c : Nat) (at0 : Int) : Prop :=
  (at0 = -1 ∧ v = ev E c) ∨ (0 ≤ at0 ∧ 0 < c ∧ ∃ b, v = .iface 120 (.pointer (some ⟨b, 0, none⟩)) ∧ w.cell? ⟨b, 0, none⟩ = some (.int .i64 at0) ∧ w.cell? ⟨b, 1, none⟩ = some (ev E c))
theorem IsErr.below {w w' : World} {E : Nat → Addr} {v : Value} {c : Nat} {at0 : Int} (h : IsErr w E v c at0) (hb : Below w.heap.size w w') : IsErr w' E v c at0 := by
  rcases h with h | ⟨h0, h1, b, e, x, y⟩
  · exact .inl h
  · exact .inr ⟨h0, h1, b, e, cell_kept hb x, cell_kept hb y⟩
theorem isErr_nil (w : World) (E : Nat → Addr) : IsErr w E .nilIface 0 (-1) := .inl ⟨rfl, rfl⟩

def inB3 (n a b : Int) : Bool := decide (a ≤ n) && decide (n ≤ b)
theorem within_any (n a b : Int) (w : World) : Calls Tryz.prog 35 #[.int .i64 n, .int .i64 a, .int .i64 b] w fun r w' => r = .returned (.bool (inB3 n a b)) ∧ w' = w := by
  unfold inB3
  cases h1 : decide (a ≤ n) with
  | false =>
    go_enter Tryz.func35, Tryz.ntmps35
    go_wp2
    go_ret
    exact ⟨rfl, rfl⟩
  | true =>
    cases h2 : decide (n ≤ b) with
    | false =>
      go_enter Tryz.func35, Tryz.ntmps35
      go_wp2
      go_ret
      exact ⟨rfl, rfl⟩
    | true =>
      go_enter Tryz.func35, Tryz.ntmps35
      go_wp2
      go_ret
      exact ⟨rfl, rfl⟩
theorem isSystem_any (n : Int) (w : World) : Calls Tryz.prog 46 #[.int .i64 n] w fun r w' => r = .returned (.bool (inB3 n 1 1000)) ∧ w' = w := by
  go_enter Tryz.func46, Tryz.ntmps46
  go_wp2_with fail
  refine (within_any n 1 1000 w).mono ?_
  rintro e w1 ⟨rfl, rfl⟩
  go_wp2_with fail
  go_ret
  exact ⟨rfl, rfl⟩
theorem isTag_any (n : Int) (w : World) : Calls Tryz.prog 50 #[.int .i64 n] w fun r w' => r = .returned (.bool (inB3 n 1 9999)) ∧ w' = w := by
  go_enter Tryz.func50, Tryz.ntmps50
  go_wp2_with fail
  refine (within_any n 1 9999 w).mono ?_
  rintro e w1 ⟨rfl, rfl⟩
  go_wp2_with fail
  go_ret
  exact ⟨rfl, rfl⟩
theorem inB3_out (x hi : Int) : outB x hi = !(inB3 x 1 hi) := by
  unfold outB inB3
  simp only [Bool.not_and, ← decide_not, Int.not_le]

/-- a question of a place, as a function of the program's with one captured variable: the number of the error that it answers. -/
structure Asked (f : Nat) (cv : Value) (E : Nat → Addr) (n : Nat) (q : Nat → Nat) (w : World) : Prop where
  enters : ∀ args w, (callFunc f args).run Tryz.prog w = .ok (.enter f args) w
  says : ∀ k W, k < n → Below w.heap.size w W → Calls Tryz.prog f #[.int .i64 (k : Int), cv] W fun r w' => r = .returned (ev E (q k)) ∧ Below W.heap.size W w'
theorem fault_box (W : World) (i : Int) (v : Value) : (W.alloc (.cells #[.int .i64 i, v] 124)).cell? ⟨W.heap.size, 0, none⟩ = some (.int .i64 i) ∧ (W.alloc (.cells #[.int .i64 i, v] 124)).cell? ⟨W.heap.size, 1, none⟩ = some v := box_at W _ _ _
/-- the first of n at which a question answers an error: its number and its place. -/
def firstQ (q : Nat → Nat) (n : Nat) : Nat × Int :=
  if firstN (fun k => decide (q k ≠ 0)) n < n then (q (firstN (fun k => decide (q k ≠ 0)) n), (firstN (fun k => decide (q k ≠ 0)) n : Int)) else (0, -1)

end Go.Proofs.YtbfdgflbflajdaaGreatDoor
