/-
  Worlds that differ in some blocks alone. No condition.
-/
import Derived.Test.YtnceeaccbcfopaaGreatDoorT9
namespace Go.Proofs.YtnceeaccbcfopaaGreatDoor
open Go.ChangeShapes Go.WideShapes Go.ChangeAt Go.RowKit
set_option linter.unusedVariables false
namespace ChG
open EvtR (Pt)
structure Chg (S:Nat→Prop) (w w':World):Prop where
 os:w'.os=w.os
 tape:w'.tape=w.tape
 output:w'.output=w.output
 size:w.heap.size≤w'.heap.size
 block:∀b,b<w.heap.size→¬S b→w'.heap[b]? = w.heap[b]?
theorem Chg.refl (S:Nat→Prop) (w:World):Chg S w w:=⟨rfl,rfl,rfl,Nat.le_refl _,fun _ _ _=>rfl⟩
theorem Chg.below {S:Nat→Prop} {w w1 w2:World} (h:Chg S w w1) (hb:Below w1.heap.size w1 w2):Chg S w w2 :=
 ⟨hb.os.trans h.os,hb.tape.trans h.tape,hb.output.trans h.output,Nat.le_trans h.size hb.size,fun b h1 h2=>(hb.block b (by have:=h.size;omega)).trans (h.block b h1 h2)⟩
theorem Chg.grown {S:Nat→Prop} {x:Nat} {w w1 w2:World} (h:Chg S w w1) (hg:w1.grownBy w2 (some x)) (hx:S x):Chg S w w2 :=
 ⟨hg.os.trans h.os,hg.tape.trans h.tape,hg.output.trans h.output,Nat.le_trans h.size hg.size,fun b h1 h2=>(hg.block b (by have:=h.size;omega) (by intro e;simp only [Option.some.injEq] at e;subst e;exact h2 hx)).trans (h.block b h1 h2)⟩
theorem Chg.trans {S:Nat→Prop} {w w1 w2:World} (h:Chg S w w1) (h2:Chg S w1 w2):Chg S w w2 :=
 ⟨h2.os.trans h.os,h2.tape.trans h.tape,h2.output.trans h.output,Nat.le_trans h.size h2.size,fun b h1 hs=>(h2.block b (by have:=h.size;omega) hs).trans (h.block b h1 hs)⟩
theorem Chg.wide {S S':Nat→Prop} {w w':World} (h:Chg S w w') (hs:∀b,S b→S' b):Chg S' w w' :=
 ⟨h.os,h.tape,h.output,h.size,fun b h1 h2=>h.block b h1 (fun q=>h2 (hs b q))⟩
theorem Chg.of_below {S:Nat→Prop} {w w':World} (hb:Below w.heap.size w w'):Chg S w w':=(Chg.refl S w).below hb
theorem Chg.out {S:Nat→Prop} {B:Nat} {a w w':World} (h:Chg S w w') (hb:Below B a w) (hB:∀b,S b→B≤b) (ha:B≤a.heap.size):Below B a w' :=
 ⟨h.os.trans hb.os,h.tape.trans hb.tape,h.output.trans hb.output,Nat.le_trans hb.size h.size,fun k hk=>(h.block k (by have:=hb.size;omega) (fun q=>by have:=hB k q;omega)).trans (hb.block k hk)⟩
theorem pt_block {p n:Nat} {W W':World} (h:Pt p n W) (hs:W.heap.size≤W'.heap.size) (e:W'.heap[p]? = W.heap[p]?):Pt p n W' :=
 ⟨by have:=h.lt;omega,fun o ho=>by obtain ⟨v,hv⟩:=h.has o ho;exact ⟨v,(World.cell?_of_block (a:=⟨p,o,none⟩) e).trans hv⟩,fun o ho=>(World.frozen?_of_block (a:=⟨p,o,none⟩) e).trans (h.free o ho)⟩
theorem Chg.pt {S:Nat→Prop} {p n:Nat} {W W':World} (h:Chg S W W') (hp:Pt p n W) (hn:¬S p):Pt p n W':=pt_block hp h.size (h.block p hp.lt hn)
theorem Chg.blk {S:Nat→Prop} {b:Nat} {cs:List Value} {w w':World} (h:Chg S w w') (hp:CatR.Blk b cs w) (hn:¬S b):CatR.Blk b cs w' :=
 ⟨by have:=h.size;have:=hp.1;omega,fun i hi=>(World.cell?_of_block (a:=⟨b,i,none⟩) (h.block b hp.1 hn)).trans (hp.2 i hi)⟩
end ChG
end Go.Proofs.YtnceeaccbcfopaaGreatDoor
