/-
  errors.Is between two errors of errors.New's make, and of an *api.Fault that holds one of them; errors.As at a **api.Fault: a hit at an *api.Fault, a miss at an error of errors.New's make.
-/
import Derived.Test.YtnifhaopjhgmnaaDoorErr
namespace Go.Proofs.YtnifhaopjhgmnaaDoor
open Go.RowKit Go.Extern.Stop Go.Stop Go.Extern

theorem comparableE (w : World) : (ReflectliteType.method (fun t => do Rtype.noPackHeld "Comparable" t; (fun a : TypeInfo => Value.bool a.comparable) <$> typeInfo t) #[.agg #[.pointer (some ⟨5, 117, none⟩)]]).run Tryd.prog w = .ok (.bool true) w := by kernel_rfl
theorem compE : (Tryd.prog.info? 117).map (·.comparable) = some true := by kernel_rfl
theorem sizeS : (Tryd.prog.info? 138).map (·.size) = some 1 := by kernel_rfl

theorem eqE_same (a : Addr) (w : World) : (binOp .eql 31 (.iface 117 (.pointer (some a))) (.iface 117 (.pointer (some a)))).run Tryd.prog w = .ok (.bool true) w := by
  obtain ⟨i, hi, hc⟩ := Option.map_eq_some_iff.1 compE
  obtain ⟨j, hj, _⟩ := Option.map_eq_some_iff.1 sizeS
  exact run_eql_iface_ptr_same w a Tryd.underlying31 Tryd.underlying117 hi hc hj
theorem eqE_other {a b : Addr} {ca cb : Array Value} {ta tb : TypeId} (w : World) (hne : a ≠ b) (ha : w.heap[a.block]? = some (.cells ca ta (0, 0))) (hb : w.heap[b.block]? = some (.cells cb tb (0, 0))) :
    (binOp .eql 31 (.iface 117 (.pointer (some a))) (.iface 117 (.pointer (some b)))).run Tryd.prog w = .ok (.bool false) w := by
  obtain ⟨i, hi, hc⟩ := Option.map_eq_some_iff.1 compE
  obtain ⟨j, hj, hs⟩ := Option.map_eq_some_iff.1 sizeS
  exact run_eql_iface_ptr_other w Tryd.underlying31 Tryd.underlying117 hi hc hj (by omega) hne ha hb
theorem eqP (v u : Value) (w : World) : (binOp .eql 31 (.iface 62 v) (.iface 117 u)).run Tryd.prog w = .ok (.bool false) w :=
  run_eql_iface_types _ _ _ _ Tryd.underlying31 (by decide) w

theorem typeOfCall (args : Array Value) (w : World) : Sem.run Tryd.prog (callFunc 61 args) w = (Sem.run Tryd.prog (ReflectliteType.typeOf args) w).andThen fun v w' => Result.ok (Next.value v) w' :=
  @run_callFunc_extern Tryd.prog 61 _ ReflectliteType.typeOf Tryd.func61 (by kernel_rfl) (by kernel_rfl) (by kernel_rfl) (by kernel_rfl) args w
theorem comparableCall (args : Array Value) (w : World) : Sem.run Tryd.prog (callFunc 93 args) w = (Sem.run Tryd.prog (ReflectliteType.method (fun t => do Rtype.noPackHeld "Comparable" t; pure (.bool (← typeInfo t).comparable)) args) w).andThen fun v w' => Result.ok (Next.value v) w' :=
  @run_callFunc_extern Tryd.prog 93 _ (ReflectliteType.method fun t => do Rtype.noPackHeld "Comparable" t; pure (.bool (← typeInfo t).comparable)) Tryd.func93 (by kernel_rfl) (by kernel_rfl) (by kernel_rfl) (by kernel_rfl) args w

theorem methodUnwrap (a : Addr) (w : World) : (Go.method (150 + 100) 62 (.pointer (some a)) "Unwrap").run Tryd.prog w = .ok (87, .pointer (some a)) w := by kernel_rfl
theorem nilAheadUnwrap (a : Addr) (w : World) : (nilAhead (150 + 100) 62 (.pointer (some a)) "Unwrap").run Tryd.prog w = .ok (some false) w := by kernel_rfl

end Go.Proofs.YtnifhaopjhgmnaaDoor
