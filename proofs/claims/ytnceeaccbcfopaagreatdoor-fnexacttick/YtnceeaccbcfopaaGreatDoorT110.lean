/-
  From the row's premise on the program's own error to the walk's: its variable holds an error; and a world that meets the premise. No condition.
-/
import Derived.Test.YtnceeaccbcfopaaGreatDoorTie
import Derived.ChangeSame
import Derived.ChangeVars
import Derived.JoinedOf
import Derived.ProofKit
import Derived.LaidLaws
import Derived.LaidMore
import Derived.LaidHandle
import Derived.MakeChecks
import Derived.Stop.Joined
import Derived.Stop.LaidErr
import Derived.Test.YtnceeaccbcfopaaGreatDoorT109
namespace Go.Proofs.YtnceeaccbcfopaaGreatDoor
open Go.ChangeShapes Go.WideShapes Go.RowKit
namespace Snm
theorem laidOut:laidOutB Tryz.prog=true:=by kernel_rfl
theorem own:ownKnob Tryz.prog.godebug=none:=by kernel_rfl
theorem gv:Tryz.prog.globalNamed "loop.example/g00562/impl.errNoMeter"=some 0:=by kernel_rfl
theorem gt:(Tryz.prog.globals[0]?).map (·.type)=some 175:=by kernel_rfl
theorem star : "*" ++ "errors.errorString" = "*errors.errorString":=by decide
theorem row (u:TypeId) (h:Tryz.prog.typeName? 3 u=some "*errors.errorString"):u=283 :=
 typeName_ptr_named (nm:= "errors.errorString") (by rw [star];kernel_rfl) (by kernel_rfl) (by decide) u (by rw [star];exact h)
theorem cellsE:Tryz.prog.cellsOf 309=1:=by kernel_rfl
theorem cellsS:Tryz.prog.cellsOf 9=1:=by kernel_rfl
def laid {H:Type}:List (String × DataW H):=[("loop.example/g00562/impl.errNoMeter",Rows.laid_loop_example_g00562_impl_errNoMeter)]
theorem of_laid {W:World} (h:laidMetH Tryz.prog laid W):∃a:Addr,W.var? Tryz.prog "loop.example/g00562/impl.errNoMeter"=some #[.iface 283 (.pointer (some a))]:=by
 rw [MakeChecks.laidMetH_plain _ _ _ (by kernel_rfl)] at h
 obtain ⟨a,s,hv,_⟩:=laid_sentinel h gv gt Tryz.underlying175 row Tryz.underlying283 Tryz.underlying309 rfl rfl Tryz.underlying9 cellsE cellsS
 exact ⟨a,hv⟩
theorem laid_of {W:World} {a:Addr} (h:W.var? Tryz.prog "loop.example/g00562/impl.errNoMeter"=some #[.iface 283 (.pointer (some a))]):CatR.Laid W:=by
 have hg:W.cell? ⟨0,0,none⟩=some (.iface 283 (.pointer (some a))):=by simpa using World.var?_cell gv h 0
 refine ⟨?_,a,hg⟩
 rcases Nat.lt_or_ge 0 W.heap.size with h|h
 ·exact h
 ·have h0:W.heap[0]? = none:=Array.getElem?_eq_none h
  simp [World.cell?,h0] at hg
theorem door_met (os:Os) (args:Array Value):laidMetH Tryz.prog laid ((World.doorLaid Tryz.prog 400 os).forCall (fun _ _=>0) ⟨#[],args,[]⟩).memory :=
 laidMetH_of_parts3 (fuel:=8) (laidMet_of_run' 8 (by kernel_rfl) (by kernel_rfl)) (by kernel_rfl) (by kernel_rfl)
end Snm
end Go.Proofs.YtnceeaccbcfopaaGreatDoor
