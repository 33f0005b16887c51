/-
  Sizes of lists of lines, and the law's own marks in them, from any number on. The condition: at most 1048576 lines.
-/
import Derived.Test.YtnceeaccbcfopaaGreatDoorT62
namespace Go.Proofs.YtnceeaccbcfopaaGreatDoor
open Go.ChangeShapes Go.WideShapes Go.ChangeAt Go.RowKit
set_option linter.unusedVariables false
namespace LinR
open RowG
open EvtR (Pt)
open MarkR (mk mT mark_any)
set_option maxHeartbeats 4000000 in
theorem marks0K (K:Int) (ao:Option Addr) (cap:Nat) (w:World):Calls Tryz.prog 92 #[.slice ao 0 cap,.int .i64 K] w fun e w'=>e=.returned (.int .i64 K)∧Below w.heap.size w w':=by
 go_enter Tryz.func92,Tryz.ntmps92
 go_wp2_with fail
 go_loopw [5,1] (fun x z wr=>x=.int .i64 0∧z=.int .i64 K∧Hid (Below w.heap.size w wr)) (fun x _ _=>0)
 case atStart=>exact ⟨rfl,rfl,H_ (Below.refl _ _)⟩
 case round =>
  obtain ⟨rfl,rfl,HB⟩:=hrel
  go_wp2_with fail
  go_ret
  exact ⟨rfl,HB.out⟩
end LinR
end Go.Proofs.YtnceeaccbcfopaaGreatDoor
