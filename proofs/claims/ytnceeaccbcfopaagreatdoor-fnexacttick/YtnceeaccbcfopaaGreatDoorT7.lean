/-
  Blocks that may be written, and rows beside them. No condition.
-/
import Derived.Test.YtnceeaccbcfopaaGreatDoorT6
namespace Go.Proofs.YtnceeaccbcfopaaGreatDoor
open Go.ChangeShapes Go.WideShapes Go.ChangeAt Go.RowKit
set_option linter.unusedVariables false
namespace DocR
open RowG
open EvtR (Pt)
open CatR (Blk Blk.new)
def BlkW (b:Nat) (cs:List Value) (w:World):Prop:=Blk b cs w∧∀i,i<cs.length→w.frozen? ⟨b,i,none⟩=false
theorem BlkW.below {b:Nat} {cs:List Value} {w w':World} (h:BlkW b cs w) (hb:Below w.heap.size w w'):BlkW b cs w' :=
 ⟨h.1.below hb,fun i hi=>(hb.frozen (p:=⟨b,i,none⟩) h.1.1).trans (h.2 i hi)⟩
theorem BlkW.new (w:World) (cs:List Value) (T:TypeId):BlkW w.heap.size cs (w.alloc (.cells cs.toArray T)) :=
 ⟨Blk.new w cs T,fun i hi=>by simp [go_sem]⟩
theorem BlkW.set {b:Nat} {cs:List Value} {w:World} (h:BlkW b cs w) (o:Nat) (v:Value) (ho:o<cs.length):BlkW b (cs.set o v) (w.setCell ⟨b,o,none⟩ v):=by
 obtain ⟨⟨hl,hc⟩,hf⟩:=h
 refine ⟨⟨by simpa using hl,fun i hi=>?_⟩,fun i hi=>?_⟩
 ·rw [List.length_set] at hi
  by_cases e:o=i
  ·subst e
   have:=hc o hi
   rw [List.getElem?_eq_getElem hi] at this
   rw [List.getElem?_set_self ho]
   simp [go_sem,this]
  ·rw [List.getElem?_set_ne e,←hc i hi]
   simp [go_sem]
 ·rw [List.length_set] at hi
  have:=hf i hi
  simp [go_sem,this]
theorem BlkW.other {b:Nat} {cs:List Value} {w:World} (h:BlkW b cs w) (g o:Nat) (v:Value) (hg:g≠b):BlkW b cs (w.setCell ⟨g,o,none⟩ v):=by
 have e:=(grown_set w g o v).block b h.1.1 (by simp;exact fun q=>hg q.symm)
 exact ⟨⟨by simpa using h.1.1,fun i hi=>(World.cell?_of_block (a:=⟨b,i,none⟩) e).trans (h.1.2 i hi)⟩,fun i hi=>(World.frozen?_of_block (a:=⟨b,i,none⟩) e).trans (h.2 i hi)⟩
theorem Rws.put {α:Type} {k:Nat} {cells:α→List Value} {z:α} {ao:Option Addr} {xs:List α} {w:World} (h:Rws k cells z ao xs w) (g o:Nat) (v:Value) (hne:xs.length=0∨∀b off,ao=some ⟨b,off,none⟩→b≠g):Rws k cells z ao xs (w.setCell ⟨g,o,none⟩ v) :=
 h.grown (grown_set w g o v) (hne.imp id (fun hn b off e q=>hn b off e (by simpa using q)))
theorem MadeG.put {α:Type} {k:Nat} {cells:α→List Value} {z:α} {base:Nat} {ao:Option Addr} {xs:List α} {w:World} (h:MadeG k cells z base ao xs w) (g o:Nat) (v:Value) (hne:xs.length=0∨∀b off,ao=some ⟨b,off,none⟩→b≠g):MadeG k cells z base ao xs (w.setCell ⟨g,o,none⟩ v):=by
 refine ⟨Rws.put h.rws g o v hne,?_⟩
 rcases h.own with h0|⟨b,e1,e2,e3⟩
 ·exact .inl h0
 ·rcases hne with h0|hn
  ·exact .inl h0
  have e:=(grown_set w g o v).block b e3.lt (by simp;exact fun q=>hn b 0 e1 q)
  exact .inr ⟨b,e1,e2,by simpa using e3.lt,fun x hx=>by obtain ⟨u,hu⟩:=e3.has x hx;exact ⟨u,(World.cell?_of_block (a:=⟨b,x,none⟩) e).trans hu⟩,fun x hx=>(World.frozen?_of_block (a:=⟨b,x,none⟩) e).trans (e3.free x hx)⟩
end DocR
end Go.Proofs.YtnceeaccbcfopaaGreatDoor
