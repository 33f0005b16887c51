/-
  From the row's premise on the program's table and its own error to the walk's; and a world that meets the premise. No condition.
-/
import Derived.LaidSub
import Derived.Test.YtnceeaccbcfopaaGreatDoorT110
namespace Go.Proofs.YtnceeaccbcfopaaGreatDoor
open Go.ChangeShapes Go.WideShapes Go.RowKit
namespace LayE
theorem own:ownKnob Tryz.prog.godebug=none:=by kernel_rfl
theorem laidOut:laidOutB Tryz.prog=true:=by kernel_rfl
def Ok (w:World):Prop:=CatR.Laid w∧DateR.Laid w
theorem Ok.below {w w':World} (h:Ok w) (hb:Below w.heap.size w w'):Ok w':=⟨h.1.below hb,h.2.below hb⟩
def laid {H:Type}:List (String × DataW H):=[("loop.example/g00562/impl.monthLengths",Rows.laid_loop_example_g00562_impl_monthLengths),("loop.example/g00562/impl.errNoMeter",Rows.laid_loop_example_g00562_impl_errNoMeter)]
theorem part1:(laid (H:=Unit)).filter (fun x=>x.1 != "loop.example/g00562/impl.errNoMeter")=Lay.laid:=by rfl
theorem part2:(laid (H:=Unit)).filter (fun x=>x.1 == "loop.example/g00562/impl.errNoMeter")=Snm.laid:=by rfl
theorem of_laid {W:World} (h:laidMetH Tryz.prog laid W):Ok W:=by
 have h1:=h.filter (fun x=>x.1 != "loop.example/g00562/impl.errNoMeter")
 have h2:=h.filter (fun x=>x.1 == "loop.example/g00562/impl.errNoMeter")
 rw [part1] at h1
 rw [part2] at h2
 obtain ⟨a,hv⟩:=Snm.of_laid h2
 exact ⟨Snm.laid_of hv,Lay.of_laid h1⟩
theorem door_met (os:Os) (args:Array Value):laidMetH Tryz.prog laid ((World.doorLaid Tryz.prog 400 os).forCall (fun _ _=>0) ⟨#[],args,[]⟩).memory :=
 laidMetH_of_parts3 (fuel:=8) (laidMet_of_run' 8 (by kernel_rfl) (by kernel_rfl)) (by kernel_rfl) (by kernel_rfl)
end LayE
end Go.Proofs.YtnceeaccbcfopaaGreatDoor
