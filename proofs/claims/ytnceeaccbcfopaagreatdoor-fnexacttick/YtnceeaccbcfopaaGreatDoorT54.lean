/-
  What lies in blocks from a number on is as it was. No condition.
-/
import Derived.Test.YtnceeaccbcfopaaGreatDoorT53
namespace Go.Proofs.YtnceeaccbcfopaaGreatDoor
open Go.ChangeShapes Go.WideShapes Go.ChangeAt Go.RowKit
set_option linter.unusedVariables false
namespace EngR
open ChG
open EvtR (Pt)
structure Kq (base:Nat) (w w':World):Prop where
 size:w.heap.size≤w'.heap.size
 block:∀k,base≤k→k<w.heap.size→w'.heap[k]? = w.heap[k]?
theorem Kq.refl (base:Nat) (w:World):Kq base w w:=⟨Nat.le_refl _,fun _ _ _=>rfl⟩
theorem Kq.below {base:Nat} {w w1 w2:World} (h:Kq base w w1) (hb:Below w1.heap.size w1 w2):Kq base w w2 :=
 ⟨Nat.le_trans h.size hb.size,fun k h1 h2=>(hb.block k (by have:=h.size;omega)).trans (h.block k h1 h2)⟩
theorem Kq.chg {base:Nat} {S:Nat→Prop} {w w1 w2:World} (h:Kq base w w1) (hc:Chg S w1 w2) (hS:∀b,S b→b<base):Kq base w w2 :=
 ⟨Nat.le_trans h.size hc.size,fun k h1 h2=>(hc.block k (by have:=h.size;omega) (fun q=>by have:=hS k q;omega)).trans (h.block k h1 h2)⟩
theorem Kq.cell {base:Nat} {w w':World} (h:Kq base w w') {b:Nat} (hb:base≤b) (hl:b<w.heap.size) (o:Nat):w'.cell? ⟨b,o,none⟩=w.cell? ⟨b,o,none⟩:=World.cell?_of_block (a:=⟨b,o,none⟩) (h.block b hb hl)
theorem Kq.pt {base b n:Nat} {w w':World} (h:Kq base w w') (hp:Pt b n w) (hb:base≤b):Pt b n w':=pt_block hp h.size (h.block b hb hp.lt)
theorem Kq.low {base base':Nat} {w w':World} (h:Kq base w w') (hb:base≤base'):Kq base' w w':=⟨h.size,fun k h1 h2=>h.block k (by omega) h2⟩
theorem Kq.trans {base:Nat} {w w1 w2:World} (h:Kq base w w1) (h2:Kq base w1 w2):Kq base w w2:=⟨Nat.le_trans h.size h2.size,fun k h3 h4=>(h2.block k h3 (by have:=h.size;omega)).trans (h.block k h3 h4)⟩
theorem rws_kq {α:Type} {k:Nat} {cells:α→List Value} {z:α} {ao:Option Addr} {xs:List α} {base:Nat} {w w':World} (h:RowG.Rws k cells z ao xs w) (hk:Kq base w w') (hb:xs.length=0∨∀b off,ao=some ⟨b,off,none⟩→base≤b):RowG.Rws k cells z ao xs w':=by
 rcases h with h0|⟨b,off,e,hl,hc⟩
 ·exact .inl h0
 ·rcases hb with h0|hb
  ·exact .inl h0
  ·exact .inr ⟨b,off,e,Nat.lt_of_lt_of_le hl hk.size,fun j hj i hi=>(hk.cell (hb b off e) hl _).trans (hc j hj i hi)⟩
end EngR
end Go.Proofs.YtnceeaccbcfopaaGreatDoor
