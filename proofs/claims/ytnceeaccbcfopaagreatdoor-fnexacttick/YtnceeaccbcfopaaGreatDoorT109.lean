/-
  From the row's premise on the program's table to the walk's: its variable holds the months' days; and a world that meets the premise. No condition.
-/
import Derived.Test.YtnceeaccbcfopaaGreatDoorTie
import Derived.ChangeSame
import Derived.ChangeVars
import Derived.JoinedOf
import Derived.ProofKit
import Derived.LaidLaws
import Derived.LaidMore
import Derived.LaidHandle
import Derived.MakeChecks
import Derived.Lib.LaidTab
import Derived.Stop.Joined
import Derived.Test.YtnceeaccbcfopaaGreatDoorT108
namespace Go.Proofs.YtnceeaccbcfopaaGreatDoor
open Go.ChangeShapes Go.WideShapes Go.RowKit
namespace Lay
theorem own:ownKnob Tryz.prog.godebug=none:=by kernel_rfl
theorem laidOut:laidOutB Tryz.prog=true:=by kernel_rfl
theorem gv:Tryz.prog.globalNamed "loop.example/g00562/impl.monthLengths"=some 1:=by kernel_rfl
theorem gt:(Tryz.prog.globals[1]?).map (·.type)=some 279:=by kernel_rfl
theorem cellsE:Tryz.prog.cellsOf 2=1:=by kernel_rfl
theorem cellsT:Tryz.prog.cellsOf 279=12:=by kernel_rfl
def laid {H:Type}:List (String × DataW H):=[("loop.example/g00562/impl.monthLengths",Rows.laid_loop_example_g00562_impl_monthLengths)]
theorem of_tab {W:World} (hT:Lib.TabIs Tryz.prog W "loop.example/g00562/impl.monthLengths" .i64 DateR.tab):DateR.Laid W:=by
 have hc:∀k:Nat,k<12→W.cell? ⟨1,k,none⟩=some (.int .i64 (DateR.tab.getD k 0)):=fun k hk=>hT.cell gv k hk
 refine ⟨?_,hc⟩
 rcases Nat.lt_or_ge 1 W.heap.size with h|h
 ·exact h
 ·have h0:W.heap[1]? = none:=Array.getElem?_eq_none h
  have:=hc 0 (by omega)
  simp [World.cell?,h0] at this
theorem of_laid {W:World} (h:laidMetH Tryz.prog laid W):DateR.Laid W:=by
 rw [MakeChecks.laidMetH_plain _ _ _ (by kernel_rfl)] at h
 exact of_tab (Lib.tabIs_of_head gv gt Tryz.underlying279 Tryz.underlying2 cellsE cellsT (zs:=DateR.tab) (k:=.i64) h)
theorem door_met (os:Os) (args:Array Value):laidMetH Tryz.prog laid ((World.doorLaid Tryz.prog 400 os).forCall (fun _ _=>0) ⟨#[],args,[]⟩).memory :=
 laidMetH_of_parts3 (fuel:=8) (laidMet_of_run' 8 (by kernel_rfl) (by kernel_rfl)) (by kernel_rfl) (by kernel_rfl)
end Lay
end Go.Proofs.YtnceeaccbcfopaaGreatDoor
