/-
  A part of an answer: what it reads as, in blocks of its own between two numbers, and what marking it promises; all of that stands as long as its blocks do. Lists of meters, credits, sources, entries are such parts. The conditions: sizes.
-/
import Derived.Test.YtnceeaccbcfopaaGreatDoorT124
namespace Go.Proofs.YtnceeaccbcfopaaGreatDoor
open Go.ChangeShapes Go.WideShapes Go.ChangeAt Go.RowKit
set_option linter.unusedVariables false
namespace EngR
open OwG CatR ChG
open RowG (cellsAll grown_set)
open EvtR (Pt)
def Pc (R:Value→World→Prop) (mf hf tot lo hi:Nat) (v:Value) (W:World):Prop:=hi≤W.heap.size∧∃T:Nat→Prop,(∀b,T b→lo≤b∧b<hi)∧∀W',W.heap.size≤W'.heap.size→(∀b,T b→W'.heap[b]? = W.heap[b]?)→R v W'∧∀K,1≤K→K+tot≤5300001→MkH mf hf v K (K+tot) T W'
section
variable {R:Value→World→Prop} {mf hf tot lo hi:Nat} {v:Value} {W W':World}
theorem Pc.keep (h:Pc R mf hf tot lo hi v W) (hs:W.heap.size≤W'.heap.size) (hb:∀b,lo≤b→b<hi→W'.heap[b]? = W.heap[b]?):Pc R mf hf tot lo hi v W':=by
 obtain ⟨h1,T,h2,h3⟩:=h
 refine ⟨by omega,T,h2,fun W2 hs2 hb2=>h3 W2 (by omega) (fun b q=>(hb2 b q).trans (hb b (h2 b q).1 (h2 b q).2))⟩
theorem Pc.below (h:Pc R mf hf tot lo hi v W) (hb:Below W.heap.size W W'):Pc R mf hf tot lo hi v W':=h.keep hb.size (fun b _ q=>hb.block b (by have:=h.1;omega))
theorem Pc.kq {base:Nat} (h:Pc R mf hf tot lo hi v W) (hk:Kq base W W') (hl:base≤lo):Pc R mf hf tot lo hi v W':=h.keep hk.size (fun b q1 q2=>hk.block b (by omega) (by have:=h.1;omega))
theorem Pc.put (h:Pc R mf hf tot lo hi v W) (g o:Nat) (u:Value) (hg:g<lo∨hi≤g):Pc R mf hf tot lo hi v (W.setCell ⟨g,o,none⟩ u) :=
 h.keep (grown_set W g o u).size (fun b q1 q2=>(grown_set W g o u).block b (by have:=h.1;omega) (by simp;omega))
theorem Pc.grown {row:Option Nat} (h:Pc R mf hf tot lo hi v W) (hg:W.grownBy W' row) (hr:∀g,row=some g→g<lo∨hi≤g):Pc R mf hf tot lo hi v W' :=
 h.keep hg.size (fun b q1 q2=>hg.block b (by have:=h.1;omega) (fun e=>by have:=hr b e.symm;omega))
theorem Pc.reads (h:Pc R mf hf tot lo hi v W):R v W:=(h.2.choose_spec.2 W (Nat.le_refl _) (fun _ _=>rfl)).1
theorem Pc.wide {lo' hi':Nat} (h:Pc R mf hf tot lo hi v W) (h1:lo'≤lo) (h2:hi≤hi') (h3:hi'≤W.heap.size):Pc R mf hf tot lo' hi' v W:=by
 obtain ⟨_,T,q1,q2⟩:=h
 exact ⟨h3,T,fun b q=>by have:=q1 b q;omega,q2⟩
theorem Pc.imp {R':Value→World→Prop} (h:Pc R mf hf tot lo hi v W) (hR:∀W,R v W→R' v W):Pc R' mf hf tot lo hi v W:=by
 obtain ⟨h1,T,q1,q2⟩:=h
 exact ⟨h1,T,q1,fun W2 a b=>⟨hR _ (q2 W2 a b).1,(q2 W2 a b).2⟩⟩
theorem Pc.nil (W:World) (hR:∀W,R v W) (hM:∀K W,MkH mf hf v K K (fun _=>False) W):Pc R mf hf 0 lo W.heap.size v W :=
 ⟨Nat.le_refl _,fun _=>False,fun _ q=>q.elim,fun W2 _ _=>⟨hR W2,fun K _ _=>hM K W2⟩⟩
end
theorem own_blk {W W':World} {base e size n:Nat} {v:Value} {xs:List Value} (h:W.ownsRow base e size v n xs) (hs:W.heap.size≤W'.heap.size) (hb:∀b,v.ownBlock=some b→W'.heap[b]? = W.heap[b]?):W'.ownsRow base e size v n xs:=by
 refine ⟨h.1,h.2.imp id ?_⟩
 rintro ⟨g,cap,cur,rfl,hg,hh,rest⟩
 exact ⟨g,cap,cur,rfl,hg,(hb g rfl).trans hh,rest⟩
def RCr (xs:List Cr) (v:Value) (W:World):Prop:=∃a c,v=.slice a xs.length c∧Crs a xs.length xs W
def REn (xs:List SeenR.N) (v:Value) (W:World):Prop:=∃a c,v=.slice a xs.length c∧SeenR.Ens a xs W
def RWd (xs:List WinR.Wd) (v:Value) (W:World):Prop:=∃a c,v=.slice a xs.length c∧WinR.Wns a xs W
def RDc (xs:List DocR.D) (v:Value) (W:World):Prop:=∃a c,v=.slice a xs.length c∧LedR.Dcs a xs W
theorem own_crsT {w:World} {base n c e:Nat} {ao:Option Addr} {ts:List Cr} (h:w.ownsRow base e 2 (.slice ao n c) n (cellsAll Cr.cells ts)) (hn:n=ts.length):Crs ao n ts w:=by
 subst hn
 obtain ⟨ao',cap,e,hm⟩:=RowG.own_made (z:=Cr.zero) Cr.len h
 cases e
 refine ⟨rfl,?_⟩
 rcases hm.rws with h0|⟨b,off,rfl,hb,hc⟩
 ·exact .inl h0
 ·exact .inr ⟨b,off,rfl,hb,fun j hj=>⟨hc j hj 0 (by omega),hc j hj 1 (by omega)⟩⟩
theorem pc_sr {W:World} {lo:Nat} {v:Value} {xs:List Cr} (h:W.ownsRow lo 63 2 v xs.length (cellsAll Cr.cells xs)) (hn:xs.length≤1048576):Pc (RCr xs) 39 94 (2*xs.length) lo W.heap.size v W:=by
 obtain ⟨a,c,rfl,_⟩:=RowG.own_made (z:=Cr.zero) Cr.len h
 refine ⟨Nat.le_refl _,T1 (.slice a xs.length c),fun b q=>h.lt b q,fun W2 hs hb=>?_⟩
 have h2:=own_blk h hs hb
 exact ⟨⟨a,c,rfl,own_crsT h2 rfl⟩,fun K k1 k2=>mkh_src h2 k1 (by omega) hn⟩
theorem pc_en {W:World} {lo:Nat} {v:Value} {xs:List SeenR.N} (h:W.ownsRow lo 110 3 v xs.length (cellsAll SeenR.N.cells xs)) (hn:xs.length≤1048576):Pc (REn xs) 40 95 (3*xs.length) lo W.heap.size v W:=by
 obtain ⟨a,c,rfl,_⟩:=RowG.own_made (z:=SeenR.N.zero) SeenR.N.len h
 refine ⟨Nat.le_refl _,ChG.T0 (.slice a xs.length c),fun b q=>h.lt b q,fun W2 hs hb=>?_⟩
 have h2:=own_blk h hs hb
 obtain ⟨a',c',e,hm⟩:=RowG.own_made (z:=SeenR.N.zero) SeenR.N.len h2
 cases e
 exact ⟨⟨a,c,rfl,hm.rws⟩,fun K k1 k2=>SeenR.mkh_ens (fun K=>mkh_ens0 K a c W2) h2 k1 (by omega) hn⟩
end EngR
end Go.Proofs.YtnceeaccbcfopaaGreatDoor
