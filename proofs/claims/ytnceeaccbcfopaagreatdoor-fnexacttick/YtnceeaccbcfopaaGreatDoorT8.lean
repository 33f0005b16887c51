/-
  Cells of a block written one behind another. No condition.
-/
import Derived.Test.YtnceeaccbcfopaaGreatDoorT7
namespace Go.Proofs.YtnceeaccbcfopaaGreatDoor
open Go.ChangeShapes Go.WideShapes Go.ChangeAt Go.RowKit
set_option linter.unusedVariables false
namespace StR
open EvtR (Pt cell_put cell_far)
open CatR (Blk)
def stL (W:World) (p:Nat):Nat→List Value→World
 | _,[]=>W
 | o,v::vs=>stL (W.setCell ⟨p,o,none⟩ v) p (o+1) vs
theorem gtr {w w1 w2:World} {g:Option Nat} (h1:w.grownBy w1 g) (h2:w1.grownBy w2 g):w.grownBy w2 g :=
 ⟨h2.os.trans h1.os,h2.tape.trans h1.tape,h2.output.trans h1.output,Nat.le_trans h1.size h2.size,fun k hk hne=>(h2.block k (by have:=h1.size;omega) hne).trans (h1.block k hk hne)⟩
theorem stL_grown (p:Nat):∀(vs:List Value) (o:Nat) (W:World),W.grownBy (stL W p o vs) (some p)
 | [],_,W=>⟨rfl,rfl,rfl,Nat.le_refl _,fun _ _ _=>rfl⟩
 | v::vs,o,W=>gtr (RowG.grown_set W p o v) (stL_grown p vs (o+1) _)
theorem pt_new (w:World) (cs:List Value) (T:TypeId):Pt w.heap.size cs.length (w.alloc (.cells cs.toArray T)) :=
 ⟨by simp,fun o ho=>⟨cs[o],by simp [go_sem,ho]⟩,fun o ho=>by simp [go_sem]⟩
end StR
end Go.Proofs.YtnceeaccbcfopaaGreatDoor
