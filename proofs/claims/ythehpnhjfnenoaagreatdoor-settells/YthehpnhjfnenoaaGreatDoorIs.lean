/-
  errors.Is between two errors of errors.New's make, and of an *api.Fault that holds one of them; errors.As at a **api.Fault: a hit at an *api.Fault, a miss at an error of errors.New's make.
-/
import Derived.Test.YthehpnhjfnenoaaGreatDoorErr
namespace Go.Proofs.YthehpnhjfnenoaaGreatDoor
open Go.RowKit Go.Extern.Stop Go.Stop Go.Extern

theorem comparableE (w : World) : (ReflectliteType.method (fun t => do Rtype.noPackHeld "Comparable" t; (fun a : TypeInfo => Value.bool a.comparable) <$> typeInfo t) #[.agg #[.pointer (some ⟨12, 152, none⟩)]]).run Tryz.prog w = .ok (.bool true) w := by kernel_rfl
theorem compE : (Tryz.prog.info? 152).map (·.comparable) = some true := by kernel_rfl
theorem sizeS : (Tryz.prog.info? 173).map (·.size) = some 1 := by kernel_rfl

theorem eqE_same (a : Addr) (w : World) : (binOp .eql 26 (.iface 152 (.pointer (some a))) (.iface 152 (.pointer (some a)))).run Tryz.prog w = .ok (.bool true) w := by
  obtain ⟨i, hi, hc⟩ := Option.map_eq_some_iff.1 compE
  obtain ⟨j, hj, _⟩ := Option.map_eq_some_iff.1 sizeS
  exact run_eql_iface_ptr_same w a Tryz.underlying26 Tryz.underlying152 hi hc hj
theorem eqE_other {a b : Addr} {ca cb : Array Value} {ta tb : TypeId} (w : World) (hne : a ≠ b) (ha : w.heap[a.block]? = some (.cells ca ta (0, 0))) (hb : w.heap[b.block]? = some (.cells cb tb (0, 0))) :
    (binOp .eql 26 (.iface 152 (.pointer (some a))) (.iface 152 (.pointer (some b)))).run Tryz.prog w = .ok (.bool false) w := by
  obtain ⟨i, hi, hc⟩ := Option.map_eq_some_iff.1 compE
  obtain ⟨j, hj, hs⟩ := Option.map_eq_some_iff.1 sizeS
  exact run_eql_iface_ptr_other w Tryz.underlying26 Tryz.underlying152 hi hc hj (by omega) hne ha hb
theorem eqP (v u : Value) (w : World) : (binOp .eql 26 (.iface 61 v) (.iface 152 u)).run Tryz.prog w = .ok (.bool false) w :=
  run_eql_iface_types _ _ _ _ Tryz.underlying26 (by decide) w

theorem typeOfCall (args : Array Value) (w : World) : Sem.run Tryz.prog (callFunc 60 args) w = (Sem.run Tryz.prog (ReflectliteType.typeOf args) w).andThen fun v w' => Result.ok (Next.value v) w' :=
  @run_callFunc_extern Tryz.prog 60 _ ReflectliteType.typeOf Tryz.func60 (by kernel_rfl) (by kernel_rfl) (by kernel_rfl) (by kernel_rfl) args w
theorem comparableCall (args : Array Value) (w : World) : Sem.run Tryz.prog (callFunc 124 args) w = (Sem.run Tryz.prog (ReflectliteType.method (fun t => do Rtype.noPackHeld "Comparable" t; pure (.bool (← typeInfo t).comparable)) args) w).andThen fun v w' => Result.ok (Next.value v) w' :=
  @run_callFunc_extern Tryz.prog 124 _ (ReflectliteType.method fun t => do Rtype.noPackHeld "Comparable" t; pure (.bool (← typeInfo t).comparable)) Tryz.func124 (by kernel_rfl) (by kernel_rfl) (by kernel_rfl) (by kernel_rfl) args w

set_option maxRecDepth 100000 in
set_option maxHeartbeats 1000000 in
/-- errors.Is of an error of errors.New's make and itself. -/
theorem is_same (a : Addr) (w : World) :
    Calls Tryz.prog 42 #[.iface 152 (.pointer (some a)), .iface 152 (.pointer (some a))] w fun e w' => e = .returned (.bool true) ∧ w' = w := by
  have hT := typeOfCall
  have hC := comparableCall
  have tO := typeOfE
  have mC := methodComparable
  have cE := comparableE
  have eq := eqE_same
  go_enter Tryz.func42, Tryz.ntmps42
  go_wp2
  refine wp_loop_rounds 1 ?_
  rw [rounds_succ]
  go_wp2
  go_ret
  exact ⟨rfl, rfl⟩

set_option maxRecDepth 100000 in
set_option maxHeartbeats 1000000 in
/-- .. and another one. -/
theorem is_other {a b : Addr} {ca cb : Array Value} {ta tb : TypeId} (w : World) (hne : a ≠ b) (ha : w.heap[a.block]? = some (.cells ca ta (0, 0))) (hb : w.heap[b.block]? = some (.cells cb tb (0, 0))) :
    Calls Tryz.prog 42 #[.iface 152 (.pointer (some a)), .iface 152 (.pointer (some b))] w fun e w' => e = .returned (.bool false) ∧ w' = w := by
  have eq := eqE_other w hne ha hb
  clear hne ha hb
  have hT := typeOfCall
  have hC := comparableCall
  have tO := typeOfE
  have mC := methodComparable
  have cE := comparableE
  have n1 := noIsE
  have n2 := noUnwrapE
  have n3 := noUnwrapsE
  go_enter Tryz.func42, Tryz.ntmps42
  go_wp2
  refine wp_loop_rounds 1 ?_
  rw [rounds_succ]
  go_wp2
  go_ret
  exact ⟨rfl, rfl⟩

theorem methodUnwrap (a : Addr) (w : World) : (Go.method (185 + 100) 61 (.pointer (some a)) "Unwrap").run Tryz.prog w = .ok (118, .pointer (some a)) w := by kernel_rfl
theorem nilAheadUnwrap (a : Addr) (w : World) : (nilAhead (185 + 100) 61 (.pointer (some a)) "Unwrap").run Tryz.prog w = .ok (some false) w := by kernel_rfl

set_option maxRecDepth 100000 in
set_option maxHeartbeats 1000000 in
/-- errors.Is of an *api.Fault that holds an error, and that error. -/
theorem is_fault_same (f a : Addr) (w : World) (hf : w.cell? ⟨f.block, f.off + 1, none⟩ = some (.iface 152 (.pointer (some a)))) :
    Calls Tryz.prog 42 #[.iface 61 (.pointer (some f)), .iface 152 (.pointer (some a))] w fun e w' => e = .returned (.bool true) ∧ w' = w := by
  have hT := typeOfCall
  have hC := comparableCall
  have tO := typeOfE
  have mC := methodComparable
  have cE := comparableE
  have e1 := eqP
  have e2 := eqE_same
  have n1 := noIsP
  have u1 := unwrapP
  have m1 := methodUnwrap
  have m2 := nilAheadUnwrap
  go_enter Tryz.func42, Tryz.ntmps42
  go_wp2
  refine wp_loop_rounds 2 ?_
  rw [rounds_succ]
  go_wp2
  rw [rounds_succ]
  go_wp2
  go_ret
  exact ⟨rfl, rfl⟩

set_option maxRecDepth 100000 in
set_option maxHeartbeats 1000000 in
/-- .. and another error. -/
theorem is_fault_other {a b : Addr} {ca cb : Array Value} {ta tb : TypeId} (f : Addr) (w : World) (hf : w.cell? ⟨f.block, f.off + 1, none⟩ = some (.iface 152 (.pointer (some a))))
    (hne : a ≠ b) (ha : w.heap[a.block]? = some (.cells ca ta (0, 0))) (hb : w.heap[b.block]? = some (.cells cb tb (0, 0))) :
    Calls Tryz.prog 42 #[.iface 61 (.pointer (some f)), .iface 152 (.pointer (some b))] w fun e w' => e = .returned (.bool false) ∧ w' = w := by
  have e2 := eqE_other w hne ha hb
  clear hne ha hb
  have hT := typeOfCall
  have hC := comparableCall
  have tO := typeOfE
  have mC := methodComparable
  have cE := comparableE
  have e1 := eqP
  have n1 := noIsP
  have n0 := noIsE
  have n2 := noUnwrapE
  have n3 := noUnwrapsE
  have u1 := unwrapP
  have m1 := methodUnwrap
  have m2 := nilAheadUnwrap
  go_enter Tryz.func42, Tryz.ntmps42
  go_wp2
  refine wp_loop_rounds 2 ?_
  rw [rounds_succ]
  go_wp2
  rw [rounds_succ]
  go_wp2
  go_ret
  exact ⟨rfl, rfl⟩
end Go.Proofs.YthehpnhjfnenoaaGreatDoor
