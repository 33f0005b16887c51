/-
  errors.Is at the program's own sentinel: of the sentinel it tells true, of nil false. No condition.
-/
import Derived.Test.YtlhghjjgpdkekaaGreatDoorKit
import Derived.LaidEql
import Derived.Stop.Asserts
import Derived.RowKitTokens
namespace Go.Proofs.YtlhghjjgpdkekaaGreatDoor
open Go.RowKit Go.Extern.Stop Go.Stop Go.Extern
set_option linter.unusedVariables false
namespace IsR
theorem typeOfS (v : Value) (w : World) : (Extern.ReflectliteType.typeOf #[.iface 162 v]).run Tryz.prog w = .ok (.iface 151 (.agg #[.pointer (some ⟨1, 162, none⟩)])) w := by kernel_rfl
def compF : TypeId → Sem Value := fun t => do Rtype.noPackHeld "Comparable" t; pure (.bool (← typeInfo t).comparable)
theorem compS (w : World) : ((Extern.ReflectliteType.method compF) #[.agg #[.pointer (some ⟨1, 162, none⟩)]]).run Tryz.prog w = .ok (.bool true) w := by kernel_rfl
theorem methodComp (v : Value) (w : World) : (Go.method 299 151 v "Comparable").run Tryz.prog w = .ok (118, v) w := by kernel_rfl
theorem isComp : (Tryz.prog.info? 162).map (·.comparable) = some true := by kernel_rfl
theorem isSize : (Tryz.prog.info? 187).map (·.size) = some 1 := by kernel_rfl
theorem is_same (a : Addr) (w : World) :
    Calls Tryz.prog 77 #[.iface 162 (.pointer (some a)), .iface 162 (.pointer (some a))] w fun e w' => e = .returned (.bool true) ∧ w' = w := by
  obtain ⟨i, hi, hcmp⟩ := Option.map_eq_some_iff.1 isComp
  obtain ⟨j, hj, hjs⟩ := Option.map_eq_some_iff.1 isSize
  have h8 := @run_callFunc_extern Tryz.prog 92 _ Extern.ReflectliteType.typeOf Tryz.func92 (by kernel_rfl) (by kernel_rfl) (by kernel_rfl) (by kernel_rfl)
  have h32 := @run_callFunc_extern Tryz.prog 118 _ (Extern.ReflectliteType.method compF) Tryz.func118 (by kernel_rfl) (by kernel_rfl) (by kernel_rfl) (by kernel_rfl)
  have tT := typeOfS
  have cT := compS
  have mR := methodComp
  have heq := run_eql_iface_ptr_same (P := Tryz.prog) w a Tryz.underlying116 Tryz.underlying162 hi hcmp hj
  go_enter Tryz.func77, Tryz.ntmps77
  go_wp2
  refine wp_loop_rounds 1 ?_
  rw [rounds_succ]
  go_wp2
  go_ret
  exact ⟨rfl, rfl⟩
theorem is_nil (b : Addr) (w : World) :
    Calls Tryz.prog 77 #[.nilIface, .iface 162 (.pointer (some b))] w fun e w' => e = .returned (.bool false) ∧ w' = w := by
  have hn := run_eql_iface_nil_left (P := Tryz.prog) w 162 (.pointer (some b)) Tryz.underlying116
  go_enter Tryz.func77, Tryz.ntmps77
  go_wp2
  go_ret
  exact ⟨rfl, rfl⟩
end IsR
end Go.Proofs.YtlhghjjgpdkekaaGreatDoor
