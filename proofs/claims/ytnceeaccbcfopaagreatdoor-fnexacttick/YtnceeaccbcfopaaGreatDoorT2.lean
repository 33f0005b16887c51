/-
  A row of cells that may be written. No condition.
-/
import Derived.Test.YtnceeaccbcfopaaGreatDoorT1
namespace Go.Proofs.YtnceeaccbcfopaaGreatDoor
open Go.ChangeShapes Go.WideShapes Go.ChangeAt Go.RowKit
set_option linter.unusedVariables false
namespace EvtR
structure Pt (g m:Nat) (w:World):Prop where
 lt:g<w.heap.size
 has:∀o,o<m→∃v,w.cell? ⟨g,o,none⟩=some v
 free:∀o,o<m→w.frozen? ⟨g,o,none⟩=false
theorem Pt.below {g m:Nat} {w w':World} (h:Pt g m w) (hb:Below w.heap.size w w'):Pt g m w' :=
 ⟨by have:=hb.size;have:=h.lt;omega,fun o ho=>by obtain ⟨v,hv⟩:=h.has o ho;exact ⟨v,(hb.cell (p:=⟨g,o,none⟩) h.lt).trans hv⟩,fun o ho=>(hb.frozen (p:=⟨g,o,none⟩) h.lt).trans (h.free o ho)⟩
theorem cell_put {g m:Nat} {w:World} (h:Pt g m w) (o:Nat) (ho:o<m) (v:Value):(w.setCell ⟨g,o,none⟩ v).cell? ⟨g,o,none⟩=some v:=by
 obtain ⟨u,hu⟩:=h.has o ho
 simp [go_sem,hu]
theorem cell_far {g:Nat} {w:World} (o o':Nat) (ho:o≠o') (v:Value):(w.setCell ⟨g,o,none⟩ v).cell? ⟨g,o',none⟩=w.cell? ⟨g,o',none⟩:=by
 simp [go_sem]
theorem Pt.set {g m:Nat} {w:World} (h:Pt g m w) (o:Nat) (v:Value):Pt g m (w.setCell ⟨g,o,none⟩ v):=by
 refine ⟨by simpa using h.lt,fun x hx=>?_,fun x hx=>?_⟩
 ·by_cases e:o=x
  ·subst e;exact ⟨v,cell_put h o hx v⟩
  ·obtain ⟨u,hu⟩:=h.has x hx
   exact ⟨u,(cell_far o x e v).trans hu⟩
 ·have:=h.free x hx
  simp [go_sem,this]
end EvtR
end Go.Proofs.YtnceeaccbcfopaaGreatDoor
