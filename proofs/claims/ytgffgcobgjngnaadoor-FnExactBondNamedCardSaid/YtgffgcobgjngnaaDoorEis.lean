/-
  errors.Is where the target is a number of the program's own type of problems.
-/
import Derived.Test.YtgffgcobgjngnaaDoorBtI
import Derived.Lib.IfaceEq
import Derived.Stop.Asserts
import Derived.LaidEql
import Derived.RowKitTokens
namespace Go.Proofs.YtgffgcobgjngnaaDoor
open Go.ChangeShapes Go.WideShapes Go.ChangeAt Go.RowKit Go.Joins Go.Extern.Stop Go.Stop Go.Extern

theorem eisTypeOf (v : Value) (w : World) : (Extern.ReflectliteType.typeOf #[.iface 102 v]).run Tryd.prog w = .ok (.iface 139 (.agg #[.pointer (some ⟨10, 102, none⟩)])) w := by kernel_rfl
theorem eisComparable (w : World) : ((Extern.ReflectliteType.method fun t => do Go.Extern.Rtype.noPackHeld "Comparable" t; (fun a => Value.bool a.comparable) <$> typeInfo t) #[.agg #[.pointer (some ⟨10, 102, none⟩)]]).run Tryd.prog w = .ok (.bool true) w := by kernel_rfl
theorem eisMethodComparable (n : Nat) (v : Value) (w : World) : (Go.method (n + 1) 139 v "Comparable").run Tryd.prog w = .ok (174, v) w := by kernel_rfl
theorem eisComp : (Tryd.prog.info? 102).map (·.comparable) = some true := by kernel_rfl
theorem eisNoIs (v : Value) (xT : TypeId) (w : World) : (Instr.typeAssert (.iface 102 v) xT 141 true).run Tryd.prog w = .ok (.tuple #[.nilIface, .bool false]) w := run_typeAssert_lacksB Tryd.underlying141 (by kernel_rfl) (by kernel_rfl) v xT w
theorem eisNoUnwrap (v : Value) (xT : TypeId) (w : World) : (Instr.typeAssert (.iface 102 v) xT 144 true).run Tryd.prog w = .ok (.tuple #[.nilIface, .bool false]) w := run_typeAssert_lacksB Tryd.underlying144 (by kernel_rfl) (by kernel_rfl) v xT w
theorem eisNoUnwraps (v : Value) (xT : TypeId) (w : World) : (Instr.typeAssert (.iface 102 v) xT 146 true).run Tryd.prog w = .ok (.tuple #[.nilIface, .bool false]) w := run_typeAssert_lacksB Tryd.underlying146 (by kernel_rfl) (by kernel_rfl) v xT w

set_option maxRecDepth 100000 in
set_option maxHeartbeats 1600000 in
/-- Two problems' numbers: they are the same error where the numbers are equal. -/
theorem eis (a b : Int) (w : World) :
    Calls Tryd.prog 66 #[.iface 102 (.int .i64 a), .iface 102 (.int .i64 b)] w fun e w' => e = .returned (.bool (decide (a = b))) ∧ w' = w := by
  have h8 := @run_callFunc_extern Tryd.prog 88 _ Extern.ReflectliteType.typeOf Tryd.func88 (by kernel_rfl) (by kernel_rfl) (by kernel_rfl) (by kernel_rfl)
  have h32 := @run_callFunc_extern Tryd.prog 174 _ (Extern.ReflectliteType.method fun t => do Go.Extern.Rtype.noPackHeld "Comparable" t; pure (.bool (← typeInfo t).comparable)) Tryd.func174 (by kernel_rfl) (by kernel_rfl) (by kernel_rfl) (by kernel_rfl)
  have tT := eisTypeOf
  have cT := eisComparable
  have mR := eisMethodComparable 327
  have nE := eisNoIs
  have uE := eisNoUnwrap
  have vE := eisNoUnwraps
  by_cases hab : a = b
  · subst hab
    have heq : ∀ w, (binOp .eql 65 (.iface 102 (.int .i64 a)) (.iface 102 (.int .i64 a))).run Tryd.prog w = .ok (.bool true) w := fun w => by
      have h := Lib.run_eql_iface_int (P := Tryd.prog) (k := .i64) w a a Tryd.underlying65 eisComp Tryd.underlying102
      simpa using h
    go_enter Tryd.func66, Tryd.ntmps66
    go_wp2
    refine wp_loop_rounds 1 ?_
    rw [rounds_succ]
    go_wp2
    go_ret
    exact ⟨by simp, rfl⟩
  · have heq : ∀ w, (binOp .eql 65 (.iface 102 (.int .i64 a)) (.iface 102 (.int .i64 b))).run Tryd.prog w = .ok (.bool false) w := fun w => by
      have h := Lib.run_eql_iface_int (P := Tryd.prog) (k := .i64) w a b Tryd.underlying65 eisComp Tryd.underlying102
      have e : (a == b) = false := by simp [hab]
      rw [e] at h
      exact h
    have hne : decide (a = b) = false := by simp [hab]
    rw [hne]
    clear hab hne
    go_enter Tryd.func66, Tryd.ntmps66
    go_wp2
    refine wp_loop_rounds 1 ?_
    rw [rounds_succ]
    go_wp2
    go_ret
    exact ⟨rfl, rfl⟩
/-- No error is none of the problems. -/
theorem eis_nil (b : Int) (w : World) :
    Calls Tryd.prog 66 #[.nilIface, .iface 102 (.int .i64 b)] w fun e w' => e = .returned (.bool false) ∧ w' = w := by
  have hn := run_eql_iface_nil_left (P := Tryd.prog) w 102 (.int .i64 b) Tryd.underlying65
  go_enter Tryd.func66, Tryd.ntmps66
  go_wp2
  go_ret
  exact ⟨rfl, rfl⟩
end Go.Proofs.YtgffgcobgjngnaaDoor
