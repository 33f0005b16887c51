/-
  Lists of documents: the law's own copies, and two lists held against each other. The condition: at most 1048576 documents, each of at most 1048576 lines.
-/
import Derived.Deep.RegionWith
import Derived.Test.YtnceeaccbcfopaaGreatDoorT121
namespace Go.Proofs.YtnceeaccbcfopaaGreatDoor
open Go.ChangeShapes Go.WideShapes Go.ChangeAt Go.RowKit Go.Deep
set_option linter.unusedVariables false
namespace LedR
open LinR RowG LtR NetR DocR
open EvtR (Pt cell_put cell_far)
theorem infoD:(Tryz.prog.info? 122).map (fun i=>(i.zero,i.size,i.bytes))=some (some (.agg #[.string ⟨#[]⟩,.int .i64 0,.int .i64 0,.slice none 0 0]),4,56):=by kernel_rfl
theorem pt_any {p q n o:Nat} {W:World} {v:Value} (h:Pt p n W):Pt p n (W.setCell ⟨q,o,none⟩ v):=by
 by_cases e:p=q
 ·subst e;exact h.set _ _
 ·have eb:(W.setCell ⟨q,o,none⟩ v).heap[p]? = W.heap[p]?:=by
   simp only [World.setCell]
   rw [Array.getElem?_modify,if_neg (fun e2=>e e2.symm)]
  exact ⟨by have:=h.lt;simpa using this,fun x hx=>by obtain ⟨u,hu⟩:=h.has x hx;exact ⟨u,(World.cell?_of_block (a:=⟨p,x,none⟩) eb).trans hu⟩,fun x hx=>(World.frozen?_of_block (a:=⟨p,x,none⟩) eb).trans (h.free x hx)⟩
theorem ne_of {la:Option Addr} {n g:Nat} {W:World} (h:n=0∨∃g',la=some ⟨g',0,none⟩∧g<g'∧g'<W.heap.size∧Pt g' (n*2) W):n=0∨∀b off,la=some ⟨b,off,none⟩→b≠g :=
 h.imp id (fun ⟨g',e1,e2,_⟩ b off e3=>by rw [e1] at e3;simp at e3;omega)
theorem own_put {la:Option Addr} {n g q o:Nat} {W:World} {v:Value} (h:n=0∨∃g',la=some ⟨g',0,none⟩∧g<g'∧g'<W.heap.size∧Pt g' (n*2) W):n=0∨∃g',la=some ⟨g',0,none⟩∧g<g'∧g'<(W.setCell ⟨q,o,none⟩ v).heap.size∧Pt g' (n*2) (W.setCell ⟨q,o,none⟩ v) :=
 h.imp id (fun ⟨g',e1,e2,e3,e4⟩=>⟨g',e1,e2,by simpa using e3,pt_any e4⟩)
def DW (g k:Nat) (ds:List D) (W:World):Prop:=∀j,j<k→∃la lc,W.cell? ⟨g,j*4,none⟩=some (.string (ds.getD j D.zero).a)∧W.cell? ⟨g,j*4+1,none⟩=some (.int .i64 (ds.getD j D.zero).mo)∧W.cell? ⟨g,j*4+2,none⟩=some (.int .i64 (ds.getD j D.zero).sq)∧W.cell? ⟨g,j*4+3,none⟩=some (.slice la (ds.getD j D.zero).ls.length lc)∧Lis la (ds.getD j D.zero).ls W∧((ds.getD j D.zero).ls.length=0∨∃g',la=some ⟨g',0,none⟩∧g<g'∧g'<W.heap.size∧Pt g' ((ds.getD j D.zero).ls.length*2) W)
theorem DW.below {g k:Nat} {ds:List D} {W W':World} (h:DW g k ds W) (hg:g<W.heap.size) (hb:Below W.heap.size W W'):DW g k ds W':=by
 intro j hj
 obtain ⟨la,lc,c0,c1,c2,c3,hL,hn⟩:=h j hj
 have f:=fun x=>hb.cell (p:=⟨g,x,none⟩) hg
 exact ⟨la,lc,(f _).trans c0,(f _).trans c1,(f _).trans c2,(f _).trans c3,hL.below hb,hn.imp id (fun ⟨g',e1,e2,e3,e4⟩=>⟨g',e1,e2,by have:=hb.size;omega,e4.below hb⟩)⟩
theorem DW.put {g k o:Nat} {ds:List D} {W:World} (h:DW g k ds W) (ho:k*4≤o) (v:Value):DW g k ds (W.setCell ⟨g,o,none⟩ v):=by
 intro j hj
 obtain ⟨la,lc,c0,c1,c2,c3,hL,hn⟩:=h j hj
 exact ⟨la,lc,(cell_far _ _ (by omega) v).trans c0,(cell_far _ _ (by omega) v).trans c1,(cell_far _ _ (by omega) v).trans c2,(cell_far _ _ (by omega) v).trans c3,DocR.Rws.put hL g o v (ne_of hn),own_put hn⟩
theorem DW.more {g k n:Nat} {ds:List D} {W:World} (h:DW g k ds W) (hp:Pt g n W) (hk:k*4+3<n) (la:Option Addr) (lc:Nat) (hL:Lis la (ds.getD k D.zero).ls W) (hn:(ds.getD k D.zero).ls.length=0∨∃g',la=some ⟨g',0,none⟩∧g<g'∧g'<W.heap.size∧Pt g' ((ds.getD k D.zero).ls.length*2) W) :
 DW g (k+1) ds ((((W.setCell ⟨g,k*4,none⟩ (.string (ds.getD k D.zero).a)).setCell ⟨g,k*4+1,none⟩ (.int .i64 (ds.getD k D.zero).mo)).setCell ⟨g,k*4+2,none⟩ (.int .i64 (ds.getD k D.zero).sq)).setCell ⟨g,k*4+3,none⟩ (.slice la (ds.getD k D.zero).ls.length lc)):=by
 intro j hj
 by_cases e:j=k
 ·subst e
  have p1:=hp.set (j*4) (.string (ds.getD j D.zero).a)
  have p2:=p1.set (j*4+1) (.int .i64 (ds.getD j D.zero).mo)
  have p3:=p2.set (j*4+2) (.int .i64 (ds.getD j D.zero).sq)
  refine ⟨la,lc,?_,?_,?_,cell_put p3 _ hk _,DocR.Rws.put (DocR.Rws.put (DocR.Rws.put (DocR.Rws.put hL g _ _ (ne_of hn)) g _ _ (ne_of hn)) g _ _ (ne_of hn)) g _ _ (ne_of hn),own_put (own_put (own_put (own_put hn)))⟩
  ·rw [cell_far _ _ (by omega),cell_far _ _ (by omega),cell_far _ _ (by omega),cell_put hp _ (by omega)]
  ·rw [cell_far _ _ (by omega),cell_far _ _ (by omega),cell_put p1 _ (by omega)]
  ·rw [cell_far _ _ (by omega),cell_put p2 _ (by omega)]
 ·exact ((((h.put (by omega) _).put (by omega) _).put (by omega) _).put (by omega) _) j (by omega)
theorem DW.dcs {g:Nat} {ds:List D} {W:World} (h:DW g ds.length ds W) (hg:g<W.heap.size):Dcs (some ⟨g,0,none⟩) ds W:=.inr ⟨g,0,rfl,hg,fun j hj=>by
 obtain ⟨la,lc,c0,c1,c2,c3,hL,_⟩:=h j hj
 exact ⟨la,lc,by rw [Nat.zero_add];exact c0,by rw [Nat.zero_add];exact c1,by rw [Nat.zero_add];exact c2,by rw [Nat.zero_add];exact c3,hL⟩⟩
def DY (g top k:Nat) (ds:List D) (W:World):Prop:=∀j,j<k→∃la lc,W.cell? ⟨g,j*4+3,none⟩=some (.slice la (ds.getD j D.zero).ls.length lc)∧((ds.getD j D.zero).ls.length=0∨∃g',la=some ⟨g',0,none⟩∧g<g'∧g'<top∧Pt g' ((ds.getD j D.zero).ls.length*2) W)
theorem DW.dy {g k:Nat} {ds:List D} {W:World} (h:DW g k ds W):DY g W.heap.size k ds W:=fun j hj=>by
 obtain ⟨la,lc,_,_,_,c3,_,hn⟩:=h j hj
 exact ⟨la,lc,c3,hn⟩
set_option maxRecDepth 100000 in
set_option maxHeartbeats 4000000 in
theorem toDsM (ao:Option Addr) (cap:Nat) (ds:List D) (w:World) (hlen:ds.length≤1048576) (hSm:∀d∈ds,d.Sm) (hI:Dcs ao ds w) :
 Calls Tryz.prog 26 #[.slice ao ds.length cap] w fun e w'=>e=.returned (.slice (some ⟨w.heap.size,0,none⟩) ds.length ds.length)∧Dcs (some ⟨w.heap.size,0,none⟩) ds w'∧Below w.heap.size w w'∧Pt w.heap.size (ds.length*4) w'∧DW w.heap.size ds.length ds w':=by
 obtain ⟨i0,hi,hz0,hz1,hz2⟩:=info_parts infoD
 have HI:=H_ hI
 have HSm:=H_ hSm
 obtain ⟨len,hl⟩:∃len,len=ds.length:=⟨_,rfl⟩
 have HEND:Hid (∀W,DW w.heap.size len ds W→w.heap.size<W.heap.size→Dcs (some ⟨w.heap.size,0,none⟩) ds W):=H_ (fun W h hg=>by rw [hl] at h;exact h.dcs hg)
 rw [←hl] at hlen ⊢
 have HL:=H_ hl
 clear hI hl hSm
 go_enter Tryz.func26,Tryz.ntmps26
 go_wp2_with (at_make;refine wpList_make_full _ rfl _ _ 40 rfl w.heap.size 122 i0 (.agg #[.string ⟨#[]⟩,.int .i64 0,.int .i64 0,.slice none 0 0]) 4 Tryz.underlying40 hi hz0 hz1 .i64 .i64 _ _ len rfl rfl rfl rfl ?b2 ?b3 ?b4 ?_)
 case b2=>rw [hz2];omega
 case b3=>unfold maxLen;omega
 case b4=>exact Nat.le_refl _
 intro wm hown hgrow
 have HB0:Hid (Below w.heap.size w wm):=H_ ((Below.refl _ _).grown hgrow (Nat.le_refl _) (fun k e=>by cases e))
 have HP0:=H_ (row_fullL hown)
 clear hown hgrow hi hz0 hz1 hz2
 go_wp2_with fail
 go_loopw [4] (fun z wr=>∃k:Nat,k≤len∧z=.int .i64 k∧Hid (Below w.heap.size w wr)∧Hid (Pt w.heap.size (len*4) wr)∧Hid (DW w.heap.size k ds wr)) (fun z _=>len-(intOf z).toNat)
 case atStart=>exact ⟨0,by omega,rfl,HB0,HP0,H_ (fun j hj=>absurd hj (by omega))⟩
 case round =>
  obtain ⟨k,hk,rfl,HB,HP,HW⟩:=hrel
  by_cases hlt:k<len
  ·have hlt2:(k:Int)<(len:Int):=by omega
   have hkl:k<ds.length:=by have:=HL.out;omega
   obtain ⟨b,off,la,lc,rfl,hbl,c0,c1,c2,c3,hLi⟩:=(HI.out.below HB.out).at k hkl
   have hsm:=HSm.out _ (getD_mem (z:=D.zero) ds k hkl)
   have HC:=H_ (toD_any (.agg (dcells (ds.getD k D.zero) la lc)) (ds.getD k D.zero) wr hsm.2.1 ⟨la,lc,rfl,hLi⟩)
   have HMORE:=H_ (fun (W:World) (h:DW w.heap.size k ds W) (hp:Pt w.heap.size (len*4) W) la lc hL hn=>h.more hp (by omega) la lc hL hn)
   obtain ⟨X,hX⟩:∃X,X=ds.getD k D.zero:=⟨_,rfl⟩
   rw [←hX] at c0 c1 c2 c3 HC HMORE
   clear hX hsm hLi
   obtain ⟨xa,xm,xs,xl⟩:=X
   unfold dcells at HC
   dsimp only at c0 c1 c2 c3 HC HMORE
   have hsz0:=HP.out.lt
   go_wp2_with fail
   refine HC.out.mono ?_
   rintro e w1 ⟨v,rfl,⟨la1,lc1,rfl,hm⟩,hb⟩
   replace HW:=H_ (HW.out.below hsz0 hb)
   replace HP:=H_ (HP.out.below hb)
   replace HB:=H_ (HB.out.trans (hb.mono HB.out.size))
   have HM1:=H_ (HMORE.out w1 HW.out HP.out la1 lc1 hm.rws (hm.own.imp id (fun ⟨g',e1,e2,e3⟩=>⟨g',e1,by omega,e3.lt,e3⟩)))
   have HP1:=H_ ((((HP.out.set (k*4) (.string xa)).set (k*4+1) (.int .i64 xm)).set (k*4+2) (.int .i64 xs)).set (k*4+3) (.slice la1 xl.length lc1))
   have HB1:Hid (Below w.heap.size w ((((w1.setCell ⟨w.heap.size,k*4,none⟩ (.string xa)).setCell ⟨w.heap.size,k*4+1,none⟩ (.int .i64 xm)).setCell ⟨w.heap.size,k*4+2,none⟩ (.int .i64 xs)).setCell ⟨w.heap.size,k*4+3,none⟩ (.slice la1 xl.length lc1))):=H_ ((((HB.out.setCell (Nat.le_refl _) _).setCell (Nat.le_refl _) _).setCell (Nat.le_refl _) _).setCell (Nat.le_refl _) _)
   obtain ⟨v0,d0⟩:=HP.out.has (k*4) (by omega)
   obtain ⟨v1,d1⟩:=HP.out.has (k*4+1) (by omega)
   obtain ⟨v2,d2⟩:=HP.out.has (k*4+2) (by omega)
   obtain ⟨v3,d3⟩:=HP.out.has (k*4+3) (by omega)
   have z0:=HP.out.free (k*4) (by omega)
   have z1:=HP.out.free (k*4+1) (by omega)
   have z2:=HP.out.free (k*4+2) (by omega)
   have z3:=HP.out.free (k*4+3) (by omega)
   have hsz1:=HP.out.lt
   unfold dcells
   dsimp only
   clear hb hm c0 c1 c2 c3 HMORE hsz0
   generalize xl.length=ll at *
   go_wp2_with fail
   go_roundw
   case rel=>exact ⟨k+1,by omega,by go_num,HB1,HP1,HM1⟩
   case measure=>simp [intOf];omega
  ·have hlt2:¬(k:Int)<(len:Int):=by omega
   obtain rfl:k=len:=by omega
   go_wp2_with fail
   go_ret
   exact ⟨rfl,HEND.out _ HW.out HP.out.lt,HB.out,HP.out,HW.out⟩
set_option maxRecDepth 100000 in
set_option maxHeartbeats 4000000 in
theorem eqDs (ao bo:Option Addr) (cap cap':Nat) (ds:List D) (w:World) (hlen:ds.length≤1048576) (hSm:∀d∈ds,d.Sm) (hI:Dcs ao ds w) (hJ:Dcs bo ds w) :
 Calls Tryz.prog 33 #[.slice ao ds.length cap,.slice bo ds.length cap'] w fun e w'=>e=.returned (.bool true)∧Below w.heap.size w w':=by
 have HI:=H_ hI
 have HJ:=H_ hJ
 have HSm:=H_ hSm
 obtain ⟨len,hl⟩:∃len,len=ds.length:=⟨_,rfl⟩
 rw [←hl] at hlen ⊢
 have HL:=H_ hl
 clear hI hJ hl hSm
 go_enter Tryz.func33,Tryz.ntmps33
 go_wp2_with fail
 go_loopw [5] (fun z wr=>∃k:Nat,k≤len∧z=.int .i64 k∧Hid (Below w.heap.size w wr)) (fun z _=>len-(intOf z).toNat)
 case atStart=>exact ⟨0,by omega,rfl,H_ (Below.refl _ _)⟩
 case round =>
  obtain ⟨k,hk,rfl,HW⟩:=hrel
  by_cases hlt:k<len
  ·have hlt2:(k:Int)<(len:Int):=by omega
   have hkl:k<ds.length:=by have:=HL.out;omega
   obtain ⟨b,off,la,lc,rfl,_,c0,c1,c2,c3,hLi⟩:=(HI.out.below HW.out).at k hkl
   obtain ⟨b',off',la',lc',rfl,_,e0,e1,e2,e3,hLi'⟩:=(HJ.out.below HW.out).at k hkl
   have hsm:=HSm.out _ (getD_mem (z:=D.zero) ds k hkl)
   have HC:=H_ (eqD_any (.agg (dcells (ds.getD k D.zero) la lc)) (.agg (dcells (ds.getD k D.zero) la' lc')) (ds.getD k D.zero) wr.drew hsm.2.1 ⟨la,lc,rfl,hLi.below (Below.refl _ _).drew⟩ ⟨la',lc',rfl,hLi'.below (Below.refl _ _).drew⟩)
   generalize ds.getD k D.zero=X at *
   obtain ⟨xa,xm,xs,xl⟩:=X
   unfold dcells at HC
   dsimp only at c0 c1 c2 c3 e0 e1 e2 e3 HC
   clear hsm hLi hLi'
   generalize xl.length=ll at *
   go_wp2_with fail
   go_region_with (go_at_call 81;refine HC.out.mono ?_;rintro e w1 ⟨rfl,hb⟩)
   all_goals (
    have HB1:=H_ (HW.out.drew.trans (hb.mono HW.out.drew.size))
    clear hb c0 c1 c2 c3 e0 e1 e2 e3
    go_wp2_with fail
    go_roundw
    case rel=>exact ⟨k+1,by omega,by go_num,HB1⟩
    case measure=>simp [intOf];omega)
  ·have hlt2:¬(k:Int)<(len:Int):=by omega
   go_wp2_with fail
   go_ret
   exact ⟨rfl,HW.out⟩
end LedR
end Go.Proofs.YtnceeaccbcfopaaGreatDoor
