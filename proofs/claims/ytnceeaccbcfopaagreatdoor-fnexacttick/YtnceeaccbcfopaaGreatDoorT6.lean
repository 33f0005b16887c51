/-
  A block of cells that stays. No condition.
-/
import Derived.Test.YtnceeaccbcfopaaGreatDoorT5
namespace Go.Proofs.YtnceeaccbcfopaaGreatDoor
open Go.ChangeShapes Go.WideShapes Go.ChangeAt Go.RowKit
set_option linter.unusedVariables false
namespace CatR
def Blk (b:Nat) (cs:List Value) (w:World):Prop:=b<w.heap.size∧∀i,i<cs.length→w.cell? ⟨b,i,none⟩=cs[i]?
theorem Blk.below {b:Nat} {cs:List Value} {w w':World} (h:Blk b cs w) (hb:Below w.heap.size w w'):Blk b cs w' :=
 ⟨by have:=hb.size;have:=h.1;omega,fun i hi=>(hb.cell (p:=⟨b,i,none⟩) h.1).trans (h.2 i hi)⟩
theorem Blk.new (w:World) (cs:List Value) (T:TypeId):Blk w.heap.size cs (w.alloc (.cells cs.toArray T)) :=
 ⟨by simp,fun i hi=>by simp [go_sem]⟩
theorem Blk.alloc {b:Nat} {cs:List Value} {w:World} (h:Blk b cs w) (o:Obj):Blk b cs (w.alloc o):=h.below ((Below.refl _ _).alloc (Nat.le_refl _) _)
theorem Blk.drew {b:Nat} {cs:List Value} {w:World} (h:Blk b cs w):Blk b cs w.drew:=h
theorem Blk.drewN {b:Nat} {cs:List Value} {w:World} (h:Blk b cs w) (n:Nat):Blk b cs (w.drewN n):=h
end CatR
end Go.Proofs.YtnceeaccbcfopaaGreatDoor
