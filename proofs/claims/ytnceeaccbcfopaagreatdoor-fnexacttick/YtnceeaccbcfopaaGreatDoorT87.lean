/-
  errors.Is at the program's own sentinel: of the sentinel it tells true, of nil false. No condition.
-/
import Derived.LaidEql
import Derived.Stop.Asserts
import Derived.RowKitTokens
import Derived.Test.YtnceeaccbcfopaaGreatDoorT86
namespace Go.Proofs.YtnceeaccbcfopaaGreatDoor
open Go.RowKit Go.Extern.Stop Go.Stop Go.Extern
set_option linter.unusedVariables false
namespace IsR
theorem typeOfS (v:Value) (w:World):(Extern.ReflectliteType.typeOf #[.iface 283 v]).run Tryz.prog w=.ok (.iface 270 (.agg #[.pointer (some ⟨3,283,none⟩)])) w:=by kernel_rfl
def compF:TypeId→Sem Value:=fun t=>do Rtype.noPackHeld "Comparable" t;pure (.bool (←typeInfo t).comparable)
theorem compS (w:World):((Extern.ReflectliteType.method compF) #[.agg #[.pointer (some ⟨3,283,none⟩)]]).run Tryz.prog w=.ok (.bool true) w:=by kernel_rfl
theorem methodComp (v:Value) (w:World):(Go.method 421 270 v "Comparable").run Tryz.prog w=.ok (250,v) w:=by kernel_rfl
theorem isComp:(Tryz.prog.info? 283).map (·.comparable)=some true:=by kernel_rfl
theorem isSize:(Tryz.prog.info? 309).map (·.size)=some 1:=by kernel_rfl
theorem is_same (a:Addr) (w:World) :
 Calls Tryz.prog 164 #[.iface 283 (.pointer (some a)),.iface 283 (.pointer (some a))] w fun e w'=>e=.returned (.bool true)∧w'=w:=by
 obtain ⟨i,hi,hcmp⟩:=Option.map_eq_some_iff.1 isComp
 obtain ⟨j,hj,hjs⟩:=Option.map_eq_some_iff.1 isSize
 have h8:=@run_callFunc_extern Tryz.prog 196 _ Extern.ReflectliteType.typeOf Tryz.func196 (by kernel_rfl) (by kernel_rfl) (by kernel_rfl) (by kernel_rfl)
 have h32:=@run_callFunc_extern Tryz.prog 250 _ (Extern.ReflectliteType.method compF) Tryz.func250 (by kernel_rfl) (by kernel_rfl) (by kernel_rfl) (by kernel_rfl)
 have tT:=typeOfS
 have cT:=compS
 have mR:=methodComp
 have heq:=run_eql_iface_ptr_same (P:=Tryz.prog) w a Tryz.underlying175 Tryz.underlying283 hi hcmp hj
 go_enter Tryz.func164,Tryz.ntmps164
 go_wp2
 refine wp_loop_rounds 1 ?_
 rw [rounds_succ]
 go_wp2
 go_ret
 exact ⟨rfl,rfl⟩
theorem is_nil (b:Addr) (w:World) :
 Calls Tryz.prog 164 #[.nilIface,.iface 283 (.pointer (some b))] w fun e w'=>e=.returned (.bool false)∧w'=w:=by
 have hn:=run_eql_iface_nil_left (P:=Tryz.prog) w 283 (.pointer (some b)) Tryz.underlying175
 go_enter Tryz.func164,Tryz.ntmps164
 go_wp2
 go_ret
 exact ⟨rfl,rfl⟩
end IsR
end Go.Proofs.YtnceeaccbcfopaaGreatDoor
