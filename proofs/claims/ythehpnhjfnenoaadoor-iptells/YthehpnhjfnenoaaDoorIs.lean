/-
  errors.Is between two errors of errors.New's make, and of an *api.Fault that holds one of them; errors.As at a **api.Fault: a hit at an *api.Fault, a miss at an error of errors.New's make.
-/
import Derived.Test.YthehpnhjfnenoaaDoorErr
namespace Go.Proofs.YthehpnhjfnenoaaDoor
open Go.RowKit Go.Extern.Stop Go.Stop Go.Extern

theorem comparableE (w : World) : (ReflectliteType.method (fun t => do Rtype.noPackHeld "Comparable" t; (fun a : TypeInfo => Value.bool a.comparable) <$> typeInfo t) #[.agg #[.pointer (some ⟨16, 72, none⟩)]]).run Tryd.prog w = .ok (.bool true) w := by kernel_rfl
theorem compE : (Tryd.prog.info? 72).map (·.comparable) = some true := by kernel_rfl
theorem sizeS : (Tryd.prog.info? 74).map (·.size) = some 1 := by kernel_rfl

theorem eqE_same (a : Addr) (w : World) : (binOp .eql 25 (.iface 72 (.pointer (some a))) (.iface 72 (.pointer (some a)))).run Tryd.prog w = .ok (.bool true) w := by
  obtain ⟨i, hi, hc⟩ := Option.map_eq_some_iff.1 compE
  obtain ⟨j, hj, _⟩ := Option.map_eq_some_iff.1 sizeS
  exact run_eql_iface_ptr_same w a Tryd.underlying25 Tryd.underlying72 hi hc hj
theorem eqE_other {a b : Addr} {ca cb : Array Value} {ta tb : TypeId} (w : World) (hne : a ≠ b) (ha : w.heap[a.block]? = some (.cells ca ta (0, 0))) (hb : w.heap[b.block]? = some (.cells cb tb (0, 0))) :
    (binOp .eql 25 (.iface 72 (.pointer (some a))) (.iface 72 (.pointer (some b)))).run Tryd.prog w = .ok (.bool false) w := by
  obtain ⟨i, hi, hc⟩ := Option.map_eq_some_iff.1 compE
  obtain ⟨j, hj, hs⟩ := Option.map_eq_some_iff.1 sizeS
  exact run_eql_iface_ptr_other w Tryd.underlying25 Tryd.underlying72 hi hc hj (by omega) hne ha hb
theorem eqP (v u : Value) (w : World) : (binOp .eql 25 (.iface 29 v) (.iface 72 u)).run Tryd.prog w = .ok (.bool false) w :=
  run_eql_iface_types _ _ _ _ Tryd.underlying25 (by decide) w

theorem typeOfCall (args : Array Value) (w : World) : Sem.run Tryd.prog (callFunc 72 args) w = (Sem.run Tryd.prog (ReflectliteType.typeOf args) w).andThen fun v w' => Result.ok (Next.value v) w' :=
  @run_callFunc_extern Tryd.prog 72 _ ReflectliteType.typeOf Tryd.func72 (by kernel_rfl) (by kernel_rfl) (by kernel_rfl) (by kernel_rfl) args w
theorem comparableCall (args : Array Value) (w : World) : Sem.run Tryd.prog (callFunc 175 args) w = (Sem.run Tryd.prog (ReflectliteType.method (fun t => do Rtype.noPackHeld "Comparable" t; pure (.bool (← typeInfo t).comparable)) args) w).andThen fun v w' => Result.ok (Next.value v) w' :=
  @run_callFunc_extern Tryd.prog 175 _ (ReflectliteType.method fun t => do Rtype.noPackHeld "Comparable" t; pure (.bool (← typeInfo t).comparable)) Tryd.func175 (by kernel_rfl) (by kernel_rfl) (by kernel_rfl) (by kernel_rfl) args w

set_option maxRecDepth 100000 in
set_option maxHeartbeats 1000000 in
/-- errors.Is of an error of errors.New's make and itself. -/
theorem is_same (a : Addr) (w : World) :
    Calls Tryd.prog 45 #[.iface 72 (.pointer (some a)), .iface 72 (.pointer (some a))] w fun e w' => e = .returned (.bool true) ∧ w' = w := by
  have hT := typeOfCall
  have hC := comparableCall
  have tO := typeOfE
  have mC := methodComparable
  have cE := comparableE
  have eq := eqE_same
  go_enter Tryd.func45, Tryd.ntmps45
  go_wp2
  refine wp_loop_rounds 1 ?_
  rw [rounds_succ]
  go_wp2
  go_ret
  exact ⟨rfl, rfl⟩

set_option maxRecDepth 100000 in
set_option maxHeartbeats 1000000 in
/-- .. and another one. -/
theorem is_other {a b : Addr} {ca cb : Array Value} {ta tb : TypeId} (w : World) (hne : a ≠ b) (ha : w.heap[a.block]? = some (.cells ca ta (0, 0))) (hb : w.heap[b.block]? = some (.cells cb tb (0, 0))) :
    Calls Tryd.prog 45 #[.iface 72 (.pointer (some a)), .iface 72 (.pointer (some b))] w fun e w' => e = .returned (.bool false) ∧ w' = w := by
  have eq := eqE_other w hne ha hb
  clear hne ha hb
  have hT := typeOfCall
  have hC := comparableCall
  have tO := typeOfE
  have mC := methodComparable
  have cE := comparableE
  have n1 := noIsE
  have n2 := noUnwrapE
  have n3 := noUnwrapsE
  go_enter Tryd.func45, Tryd.ntmps45
  go_wp2
  refine wp_loop_rounds 1 ?_
  rw [rounds_succ]
  go_wp2
  go_ret
  exact ⟨rfl, rfl⟩

theorem methodUnwrap (a : Addr) (w : World) : (Go.method (219 + 100) 29 (.pointer (some a)) "Unwrap").run Tryd.prog w = .ok (168, .pointer (some a)) w := by kernel_rfl
theorem nilAheadUnwrap (a : Addr) (w : World) : (nilAhead (219 + 100) 29 (.pointer (some a)) "Unwrap").run Tryd.prog w = .ok (some false) w := by kernel_rfl

set_option maxRecDepth 100000 in
set_option maxHeartbeats 1000000 in
/-- errors.Is of an *api.Fault that holds an error, and that error. -/
theorem is_fault_same (f a : Addr) (w : World) (hf : w.cell? ⟨f.block, f.off + 1, none⟩ = some (.iface 72 (.pointer (some a)))) :
    Calls Tryd.prog 45 #[.iface 29 (.pointer (some f)), .iface 72 (.pointer (some a))] w fun e w' => e = .returned (.bool true) ∧ w' = w := by
  have hT := typeOfCall
  have hC := comparableCall
  have tO := typeOfE
  have mC := methodComparable
  have cE := comparableE
  have e1 := eqP
  have e2 := eqE_same
  have n1 := noIsP
  have u1 := unwrapP
  have m1 := methodUnwrap
  have m2 := nilAheadUnwrap
  go_enter Tryd.func45, Tryd.ntmps45
  go_wp2
  refine wp_loop_rounds 2 ?_
  rw [rounds_succ]
  go_wp2
  rw [rounds_succ]
  go_wp2
  go_ret
  exact ⟨rfl, rfl⟩

set_option maxRecDepth 100000 in
set_option maxHeartbeats 1000000 in
/-- .. and another error. -/
theorem is_fault_other {a b : Addr} {ca cb : Array Value} {ta tb : TypeId} (f : Addr) (w : World) (hf : w.cell? ⟨f.block, f.off + 1, none⟩ = some (.iface 72 (.pointer (some a))))
    (hne : a ≠ b) (ha : w.heap[a.block]? = some (.cells ca ta (0, 0))) (hb : w.heap[b.block]? = some (.cells cb tb (0, 0))) :
    Calls Tryd.prog 45 #[.iface 29 (.pointer (some f)), .iface 72 (.pointer (some b))] w fun e w' => e = .returned (.bool false) ∧ w' = w := by
  have e2 := eqE_other w hne ha hb
  clear hne ha hb
  have hT := typeOfCall
  have hC := comparableCall
  have tO := typeOfE
  have mC := methodComparable
  have cE := comparableE
  have e1 := eqP
  have n1 := noIsP
  have n0 := noIsE
  have n2 := noUnwrapE
  have n3 := noUnwrapsE
  have u1 := unwrapP
  have m1 := methodUnwrap
  have m2 := nilAheadUnwrap
  go_enter Tryd.func45, Tryd.ntmps45
  go_wp2
  refine wp_loop_rounds 2 ?_
  rw [rounds_succ]
  go_wp2
  rw [rounds_succ]
  go_wp2
  go_ret
  exact ⟨rfl, rfl⟩
end Go.Proofs.YthehpnhjfnenoaaDoor
