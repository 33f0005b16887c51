/-
  Lists of documents: read, sized, copied and held against each other by the law.
  Lists of documents: the law's own copies, and two lists held against each other.
  Sizes of lists of entries and of documents, whatever is left; lists of sources: sizes, the law's own copies.
  The conditions stand in what each theorem says.
-/
import Derived.Deep.RegionWith
import Derived.Test.YtnceeaccbcfopaaGreatDoorT26
set_option maxRecDepth 100000
set_option maxHeartbeats 16000000
namespace Go.Proofs.YtnceeaccbcfopaaGreatDoor
open Go.ChangeShapes Go.WideShapes Go.ChangeAt Go.RowKit Go.Deep
set_option linter.unusedVariables false
namespace LedR
open LinR RowG LtR NetR DocR
open EvtR (Pt cell_put cell_far)
def IsDcs (w:World) (ao:Option Addr) (ds:List D):Prop:=ds.length≤maxLen∧Dcs ao ds w∧∀d∈ds,d.In∧(Lit.int .i64 d.mo).wf=true
section
variable {J:Type} {enc:TypeId × Value→J} {P:Program} {w:World} {base:Nat} {spare:Nat→Bool} {held:Bool}
theorem doc_wf {t:TypeId} {f0 f1 f2 f3:Field} {fuel:Nat} {cs:List Value} {x:DataW J × List MemPlace} (hs:P.underlying t=some (.struct #[f0,f1,f2,f3])) (hone:oneCellFields P #[f0,f1,f2,f3]=true) (hC:P.cellsOf t=4) (u1:P.underlying f1.type=some (.int .i64))
 (h:DataW.trod enc P w base spare held fuel t cs=some x) (y:D) (la:Option Addr) (lc:Nat) (e:cs=(dcells y la lc).toList):(Lit.int .i64 y.mo).wf=true:=by
 obtain ⟨xs,n,_,_,hl,hlen,hf⟩:=DataW.trod_struct hs h
 obtain ⟨c0,c1,c2,c3,rfl⟩:=lst4 (hl.trans hC)
 obtain ⟨y0,y1,y2,y3,rfl⟩:=lst4 (show xs.length=4 from hlen)
 obtain ⟨o1,k1⟩:=hone_of hone 1 f1 rfl
 have h1:=hf 1 f1 rfl
 simp [o1,k1] at h1
 obtain ⟨p,e1,_,hw⟩:=DataW.trod_int u1 h1
 simp only [List.cons.injEq,and_true] at e1
 simp [dcells] at e
 rw [e1] at e
 have:=e.2.1
 simp at this
 rw [←this]
 exact hw
theorem docs_open {t e te:TypeId} {f0 f1 f2 f3 g0 g1:Field} {fuel:Nat} {ao:Option Addr} {len cap:Nat} {x:DataW J × List MemPlace} (ht:P.underlying t=some (.slice e)) (hs:P.underlying e=some (.struct #[f0,f1,f2,f3])) (hone:oneCellFields P #[f0,f1,f2,f3]=true) (hC:P.cellsOf e=4)
 (u0:P.underlying f0.type=some .string) (u1:P.underlying f1.type=some (.int .i64)) (u2:P.underlying f2.type=some (.int .i64)) (u3:P.underlying f3.type=some (.slice te))
 (hs2:P.underlying te=some (.struct #[g0,g1])) (hone2:oneCellFields P #[g0,g1]=true) (hC2:P.cellsOf te=2) (v0:P.underlying g0.type=some .string) (v1:P.underlying g1.type=some (.int .i64))
 (h:DataW.trod enc P w base spare held fuel t [.slice ao len cap]=some x):∃ds,ds.length=len∧IsDcs w ao ds:=by
 rcases DataW.trod_slice ht h with ⟨hcs,_⟩|⟨a,len',cap',elems,rest,n,_,hcs,_,hb,hl,hm,hlen,hel,_,_⟩
 ·simp only [List.cons.injEq,Value.slice.injEq,and_true] at hcs
  obtain ⟨rfl,rfl,rfl⟩:=hcs
  exact ⟨[],rfl,Nat.zero_le _,.inl rfl,fun e he=>by cases he⟩
 ·simp only [List.cons.injEq,Value.slice.injEq,and_true] at hcs
  obtain ⟨rfl,rfl,rfl⟩:=hcs
  have key:∀i,i<len→∃(X:D) (la:Option Addr) (lc:Nat),X.In∧(Lit.int .i64 X.mo).wf=true∧Lis la X.ls w∧w.cells? base (a.add (i*4)) 4=some (dcells X la lc).toList:=by
   intro i hi
   have h1:=hel i hi
   rw [hC,List.getElem?_eq_getElem (by omega)] at h1
   cases hc:w.cells? base (a.add (i*4)) 4 with
   | none=>rw [hc] at h1;simp at h1
   | some cs =>
    rw [hc] at h1
    simp only [Option.bind_some] at h1
    obtain ⟨X,la,lc,rfl,q1,q2⟩:=doc_open hs hone hC u0 u1 u2 u3 hs2 hone2 hC2 v0 v1 h1
    exact ⟨X,la,lc,q1,doc_wf hs hone hC u1 h1 X la lc rfl,q2,rfl⟩
  have:∃f:Nat→D,∀i,i<len→(f i).In∧(Lit.int .i64 (f i).mo).wf=true∧∃la lc,Lis la (f i).ls w∧w.cells? base (a.add (i*4)) 4=some (dcells (f i) la lc).toList:=by
   refine ⟨fun i=>if hi:i<len then Classical.choose (key i hi) else D.zero,fun i hi=>?_⟩
   simp only [hi,dif_pos]
   obtain ⟨la,lc,q1,q2,q3,q4⟩:=Classical.choose_spec (key i hi)
   exact ⟨q1,q2,la,lc,q3,q4⟩
  obtain ⟨f,hf⟩:=this
  refine ⟨(List.range len).map f,by simp,by simp;omega,?_,fun e he=>?_⟩
  ·by_cases h0:len=0
   ·exact .inl (by simpa using h0)
   ·obtain ⟨b,off,spot⟩:=a
    obtain ⟨_,_,la0,lc0,_,hc00⟩:=hf 0 (by omega)
    have hc0:=LinR.cells_at hc00 0 (by omega)
    have hspot:spot=none:=by
     have:w.cell? ⟨b,off,spot⟩=some (.string (f 0).a):=by simpa [Addr.add,dcells] using hc0
     exact World.cell?_spot this
    subst hspot
    refine .inr ⟨b,off,rfl,?_,fun j hj=>?_⟩
    ·have:w.cell? ⟨b,off,none⟩=some (.string (f 0).a):=by simpa [Addr.add,dcells] using hc0
     exact World.block_lt_of_cell? w _ this
    ·have hj:j<len:=by simpa using hj
     have e:((List.range len).map f).getD j D.zero=f j:=by simp [List.getD,hj]
     rw [e]
     obtain ⟨_,_,la,lc,hL,hcc⟩:=hf j hj
     have g:=fun k (hk:k<4)=>LinR.cells_at hcc k hk
     have ad:∀k,((⟨b,off,none⟩:Addr).add (j*4)).add k=⟨b,off+j*4+k,none⟩:=by
      intro k
      unfold Addr.add
      split<;>split<;>simp_all
     simp only [ad] at g
     exact ⟨la,lc,g 0 (by omega),g 1 (by omega),g 2 (by omega),g 3 (by omega),hL⟩
  ·simp only [List.mem_map,List.mem_range] at he
   obtain ⟨i,hi,rfl⟩:=he
   exact ⟨(hf i hi).1,(hf i hi).2.1⟩
end
end LedR
namespace LedR
open LinR RowG LtR NetR DocR
open EvtR (Pt cell_put cell_far)
theorem infoD:(Tryz.prog.info? 122).map (fun i=>(i.zero,i.size,i.bytes))=some (some (.agg #[.string ⟨#[]⟩,.int .i64 0,.int .i64 0,.slice none 0 0]),4,56):=by kernel_rfl
theorem pt_any {p q n o:Nat} {W:World} {v:Value} (h:Pt p n W):Pt p n (W.setCell ⟨q,o,none⟩ v):=by
 by_cases e:p=q
 ·subst e;exact h.set _ _
 ·have eb:(W.setCell ⟨q,o,none⟩ v).heap[p]? = W.heap[p]?:=by
   simp only [World.setCell]
   rw [Array.getElem?_modify,if_neg (fun e2=>e e2.symm)]
  exact ⟨by have:=h.lt;simpa using this,fun x hx=>by obtain ⟨u,hu⟩:=h.has x hx;exact ⟨u,(World.cell?_of_block (a:=⟨p,x,none⟩) eb).trans hu⟩,fun x hx=>(World.frozen?_of_block (a:=⟨p,x,none⟩) eb).trans (h.free x hx)⟩
theorem ne_of {la:Option Addr} {n g:Nat} {W:World} (h:n=0∨∃g',la=some ⟨g',0,none⟩∧g<g'∧g'<W.heap.size∧Pt g' (n*2) W):n=0∨∀b off,la=some ⟨b,off,none⟩→b≠g :=
 h.imp id (fun ⟨g',e1,e2,_⟩ b off e3=>by rw [e1] at e3;simp at e3;omega)
theorem own_put {la:Option Addr} {n g q o:Nat} {W:World} {v:Value} (h:n=0∨∃g',la=some ⟨g',0,none⟩∧g<g'∧g'<W.heap.size∧Pt g' (n*2) W):n=0∨∃g',la=some ⟨g',0,none⟩∧g<g'∧g'<(W.setCell ⟨q,o,none⟩ v).heap.size∧Pt g' (n*2) (W.setCell ⟨q,o,none⟩ v) :=
 h.imp id (fun ⟨g',e1,e2,e3,e4⟩=>⟨g',e1,e2,by simpa using e3,pt_any e4⟩)
def DW (g k:Nat) (ds:List D) (W:World):Prop:=∀j,j<k→∃la lc,W.cell? ⟨g,j*4,none⟩=some (.string (ds.getD j D.zero).a)∧W.cell? ⟨g,j*4+1,none⟩=some (.int .i64 (ds.getD j D.zero).mo)∧W.cell? ⟨g,j*4+2,none⟩=some (.int .i64 (ds.getD j D.zero).sq)∧W.cell? ⟨g,j*4+3,none⟩=some (.slice la (ds.getD j D.zero).ls.length lc)∧Lis la (ds.getD j D.zero).ls W∧((ds.getD j D.zero).ls.length=0∨∃g',la=some ⟨g',0,none⟩∧g<g'∧g'<W.heap.size∧Pt g' ((ds.getD j D.zero).ls.length*2) W)
theorem DW.below {g k:Nat} {ds:List D} {W W':World} (h:DW g k ds W) (hg:g<W.heap.size) (hb:Below W.heap.size W W'):DW g k ds W':=by
 intro j hj
 obtain ⟨la,lc,c0,c1,c2,c3,hL,hn⟩:=h j hj
 have f:=fun x=>hb.cell (p:=⟨g,x,none⟩) hg
 exact ⟨la,lc,(f _).trans c0,(f _).trans c1,(f _).trans c2,(f _).trans c3,hL.below hb,hn.imp id (fun ⟨g',e1,e2,e3,e4⟩=>⟨g',e1,e2,by have:=hb.size;omega,e4.below hb⟩)⟩
theorem DW.put {g k o:Nat} {ds:List D} {W:World} (h:DW g k ds W) (ho:k*4≤o) (v:Value):DW g k ds (W.setCell ⟨g,o,none⟩ v):=by
 intro j hj
 obtain ⟨la,lc,c0,c1,c2,c3,hL,hn⟩:=h j hj
 exact ⟨la,lc,(cell_far _ _ (by omega) v).trans c0,(cell_far _ _ (by omega) v).trans c1,(cell_far _ _ (by omega) v).trans c2,(cell_far _ _ (by omega) v).trans c3,DocR.Rws.put hL g o v (ne_of hn),own_put hn⟩
theorem DW.more {g k n:Nat} {ds:List D} {W:World} (h:DW g k ds W) (hp:Pt g n W) (hk:k*4+3<n) (la:Option Addr) (lc:Nat) (hL:Lis la (ds.getD k D.zero).ls W) (hn:(ds.getD k D.zero).ls.length=0∨∃g',la=some ⟨g',0,none⟩∧g<g'∧g'<W.heap.size∧Pt g' ((ds.getD k D.zero).ls.length*2) W) :
 DW g (k+1) ds ((((W.setCell ⟨g,k*4,none⟩ (.string (ds.getD k D.zero).a)).setCell ⟨g,k*4+1,none⟩ (.int .i64 (ds.getD k D.zero).mo)).setCell ⟨g,k*4+2,none⟩ (.int .i64 (ds.getD k D.zero).sq)).setCell ⟨g,k*4+3,none⟩ (.slice la (ds.getD k D.zero).ls.length lc)):=by
 intro j hj
 by_cases e:j=k
 ·subst e
  have p1:=hp.set (j*4) (.string (ds.getD j D.zero).a)
  have p2:=p1.set (j*4+1) (.int .i64 (ds.getD j D.zero).mo)
  have p3:=p2.set (j*4+2) (.int .i64 (ds.getD j D.zero).sq)
  refine ⟨la,lc,?_,?_,?_,cell_put p3 _ hk _,DocR.Rws.put (DocR.Rws.put (DocR.Rws.put (DocR.Rws.put hL g _ _ (ne_of hn)) g _ _ (ne_of hn)) g _ _ (ne_of hn)) g _ _ (ne_of hn),own_put (own_put (own_put (own_put hn)))⟩
  ·rw [cell_far _ _ (by omega),cell_far _ _ (by omega),cell_far _ _ (by omega),cell_put hp _ (by omega)]
  ·rw [cell_far _ _ (by omega),cell_far _ _ (by omega),cell_put p1 _ (by omega)]
  ·rw [cell_far _ _ (by omega),cell_put p2 _ (by omega)]
 ·exact ((((h.put (by omega) _).put (by omega) _).put (by omega) _).put (by omega) _) j (by omega)
theorem DW.dcs {g:Nat} {ds:List D} {W:World} (h:DW g ds.length ds W) (hg:g<W.heap.size):Dcs (some ⟨g,0,none⟩) ds W:=.inr ⟨g,0,rfl,hg,fun j hj=>by
 obtain ⟨la,lc,c0,c1,c2,c3,hL,_⟩:=h j hj
 exact ⟨la,lc,by rw [Nat.zero_add];exact c0,by rw [Nat.zero_add];exact c1,by rw [Nat.zero_add];exact c2,by rw [Nat.zero_add];exact c3,hL⟩⟩
def DY (g top k:Nat) (ds:List D) (W:World):Prop:=∀j,j<k→∃la lc,W.cell? ⟨g,j*4+3,none⟩=some (.slice la (ds.getD j D.zero).ls.length lc)∧((ds.getD j D.zero).ls.length=0∨∃g',la=some ⟨g',0,none⟩∧g<g'∧g'<top∧Pt g' ((ds.getD j D.zero).ls.length*2) W)
theorem DW.dy {g k:Nat} {ds:List D} {W:World} (h:DW g k ds W):DY g W.heap.size k ds W:=fun j hj=>by
 obtain ⟨la,lc,_,_,_,c3,_,hn⟩:=h j hj
 exact ⟨la,lc,c3,hn⟩
theorem toDsM (ao:Option Addr) (cap:Nat) (ds:List D) (w:World) (hlen:ds.length≤1048576) (hSm:∀d∈ds,d.Sm) (hI:Dcs ao ds w) :
 Calls Tryz.prog 26 #[.slice ao ds.length cap] w fun e w'=>e=.returned (.slice (some ⟨w.heap.size,0,none⟩) ds.length ds.length)∧Dcs (some ⟨w.heap.size,0,none⟩) ds w'∧Below w.heap.size w w'∧Pt w.heap.size (ds.length*4) w'∧DW w.heap.size ds.length ds w':=by
 obtain ⟨i0,hi,hz0,hz1,hz2⟩:=info_parts infoD
 have HI:=H_ hI
 have HSm:=H_ hSm
 obtain ⟨len,hl⟩:∃len,len=ds.length:=⟨_,rfl⟩
 have HEND:Hid (∀W,DW w.heap.size len ds W→w.heap.size<W.heap.size→Dcs (some ⟨w.heap.size,0,none⟩) ds W):=H_ (fun W h hg=>by rw [hl] at h;exact h.dcs hg)
 rw [←hl] at hlen ⊢
 have HL:=H_ hl
 clear hI hl hSm
 go_enter Tryz.func26,Tryz.ntmps26
 go_wp2_with (at_make;refine wpList_make_full _ rfl _ _ 40 rfl w.heap.size 122 i0 (.agg #[.string ⟨#[]⟩,.int .i64 0,.int .i64 0,.slice none 0 0]) 4 Tryz.underlying40 hi hz0 hz1 .i64 .i64 _ _ len rfl rfl rfl rfl ?b2 ?b3 ?b4 ?_)
 case b2=>rw [hz2];omega
 case b3=>unfold maxLen;omega
 case b4=>exact Nat.le_refl _
 intro wm hown hgrow
 have HB0:Hid (Below w.heap.size w wm):=H_ ((Below.refl _ _).grown hgrow (Nat.le_refl _) (fun k e=>by cases e))
 have HP0:=H_ (row_fullL hown)
 clear hown hgrow hi hz0 hz1 hz2
 go_wp2_with fail
 go_loopw [4] (fun z wr=>∃k:Nat,k≤len∧z=.int .i64 k∧Hid (Below w.heap.size w wr)∧Hid (Pt w.heap.size (len*4) wr)∧Hid (DW w.heap.size k ds wr)) (fun z _=>len-(intOf z).toNat)
 case atStart=>exact ⟨0,by omega,rfl,HB0,HP0,H_ (fun j hj=>absurd hj (by omega))⟩
 case round =>
  obtain ⟨k,hk,rfl,HB,HP,HW⟩:=hrel
  by_cases hlt:k<len
  ·have hlt2:(k:Int)<(len:Int):=by omega
   have hkl:k<ds.length:=by have:=HL.out;omega
   obtain ⟨b,off,la,lc,rfl,hbl,c0,c1,c2,c3,hLi⟩:=(HI.out.below HB.out).at k hkl
   have hsm:=HSm.out _ (getD_mem (z:=D.zero) ds k hkl)
   have HC:=H_ (toD_any (.agg (dcells (ds.getD k D.zero) la lc)) (ds.getD k D.zero) wr hsm.2.1 ⟨la,lc,rfl,hLi⟩)
   have HMORE:=H_ (fun (W:World) (h:DW w.heap.size k ds W) (hp:Pt w.heap.size (len*4) W) la lc hL hn=>h.more hp (by omega) la lc hL hn)
   obtain ⟨X,hX⟩:∃X,X=ds.getD k D.zero:=⟨_,rfl⟩
   rw [←hX] at c0 c1 c2 c3 HC HMORE
   clear hX hsm hLi
   obtain ⟨xa,xm,xs,xl⟩:=X
   unfold dcells at HC
   dsimp only at c0 c1 c2 c3 HC HMORE
   have hsz0:=HP.out.lt
   go_wp2_with fail
   refine HC.out.mono ?_
   rintro e w1 ⟨v,rfl,⟨la1,lc1,rfl,hm⟩,hb⟩
   replace HW:=H_ (HW.out.below hsz0 hb)
   replace HP:=H_ (HP.out.below hb)
   replace HB:=HT_ HB hb
   have HM1:=H_ (HMORE.out w1 HW.out HP.out la1 lc1 hm.rws (hm.own.imp id (fun ⟨g',e1,e2,e3⟩=>⟨g',e1,by omega,e3.lt,e3⟩)))
   have HP1:=H_ ((((HP.out.set (k*4) (.string xa)).set (k*4+1) (.int .i64 xm)).set (k*4+2) (.int .i64 xs)).set (k*4+3) (.slice la1 xl.length lc1))
   have HB1:Hid (Below w.heap.size w ((((w1.setCell ⟨w.heap.size,k*4,none⟩ (.string xa)).setCell ⟨w.heap.size,k*4+1,none⟩ (.int .i64 xm)).setCell ⟨w.heap.size,k*4+2,none⟩ (.int .i64 xs)).setCell ⟨w.heap.size,k*4+3,none⟩ (.slice la1 xl.length lc1))):=H_ ((((HB.out.setCell (Nat.le_refl _) _).setCell (Nat.le_refl _) _).setCell (Nat.le_refl _) _).setCell (Nat.le_refl _) _)
   obtain ⟨v0,d0⟩:=HP.out.has (k*4) (by omega)
   obtain ⟨v1,d1⟩:=HP.out.has (k*4+1) (by omega)
   obtain ⟨v2,d2⟩:=HP.out.has (k*4+2) (by omega)
   obtain ⟨v3,d3⟩:=HP.out.has (k*4+3) (by omega)
   have z0:=HP.out.free (k*4) (by omega)
   have z1:=HP.out.free (k*4+1) (by omega)
   have z2:=HP.out.free (k*4+2) (by omega)
   have z3:=HP.out.free (k*4+3) (by omega)
   have hsz1:=HP.out.lt
   unfold dcells
   dsimp only
   clear hb hm c0 c1 c2 c3 HMORE hsz0
   generalize xl.length=ll at *
   go_wp2_with fail
   go_roundw
   case rel=>exact ⟨k+1,by omega,by go_num,HB1,HP1,HM1⟩
   case measure=>simp [intOf];omega
  ·have hlt2:¬(k:Int)<(len:Int):=by omega
   obtain rfl:k=len:=by omega
   go_wp2_with fail
   go_ret
   exact ⟨rfl,HEND.out _ HW.out HP.out.lt,HB.out,HP.out,HW.out⟩
theorem eqDs (ao bo:Option Addr) (cap cap':Nat) (ds:List D) (w:World) (hlen:ds.length≤1048576) (hSm:∀d∈ds,d.Sm) (hI:Dcs ao ds w) (hJ:Dcs bo ds w) :
 Calls Tryz.prog 33 #[.slice ao ds.length cap,.slice bo ds.length cap'] w fun e w'=>e=.returned (.bool true)∧Below w.heap.size w w':=by
 have HI:=H_ hI
 have HJ:=H_ hJ
 have HSm:=H_ hSm
 obtain ⟨len,hl⟩:∃len,len=ds.length:=⟨_,rfl⟩
 rw [←hl] at hlen ⊢
 have HL:=H_ hl
 clear hI hJ hl hSm
 go_enter Tryz.func33,Tryz.ntmps33
 go_wp2_with fail
 go_loopw [5] (fun z wr=>∃k:Nat,k≤len∧z=.int .i64 k∧Hid (Below w.heap.size w wr)) (fun z _=>len-(intOf z).toNat)
 case atStart=>exact ⟨0,by omega,rfl,H_ (Below.refl _ _)⟩
 case round =>
  obtain ⟨k,hk,rfl,HW⟩:=hrel
  by_cases hlt:k<len
  ·have hlt2:(k:Int)<(len:Int):=by omega
   have hkl:k<ds.length:=by have:=HL.out;omega
   obtain ⟨b,off,la,lc,rfl,_,c0,c1,c2,c3,hLi⟩:=(HI.out.below HW.out).at k hkl
   obtain ⟨b',off',la',lc',rfl,_,e0,e1,e2,e3,hLi'⟩:=(HJ.out.below HW.out).at k hkl
   have hsm:=HSm.out _ (getD_mem (z:=D.zero) ds k hkl)
   have HC:=H_ (eqD_any (.agg (dcells (ds.getD k D.zero) la lc)) (.agg (dcells (ds.getD k D.zero) la' lc')) (ds.getD k D.zero) wr.drew hsm.2.1 ⟨la,lc,rfl,hLi.below (Below.refl _ _).drew⟩ ⟨la',lc',rfl,hLi'.below (Below.refl _ _).drew⟩)
   generalize ds.getD k D.zero=X at *
   obtain ⟨xa,xm,xs,xl⟩:=X
   unfold dcells at HC
   dsimp only at c0 c1 c2 c3 e0 e1 e2 e3 HC
   clear hsm hLi hLi'
   generalize xl.length=ll at *
   go_wp2_with fail
   go_region_with (go_at_call 81;refine HC.out.mono ?_;rintro e w1 ⟨rfl,hb⟩)
   all_goals (
    have HB1:=H_ (HW.out.drew.trans (hb.mono HW.out.drew.size))
    clear hb c0 c1 c2 c3 e0 e1 e2 e3
    go_wp2_with fail
    go_roundw
    case rel=>exact ⟨k+1,by omega,by go_num,HB1⟩
    case measure=>simp [intOf];omega)
  ·have hlt2:¬(k:Int)<(len:Int):=by omega
   go_wp2_with fail
   go_ret
   exact ⟨rfl,HW.out⟩
end LedR
end Go.Proofs.YtnceeaccbcfopaaGreatDoor
namespace Go.Proofs.YtnceeaccbcfopaaGreatDoor
open Go.ChangeShapes Go.WideShapes Go.ChangeAt Go.RowKit
set_option linter.unusedVariables false
namespace CatR
open EvtR (Pt cell_put cell_far)
theorem infoSrc:(Tryz.prog.info? 63).map (fun i=>(i.zero,i.size,i.bytes))=some (some (.agg #[.string ⟨#[]⟩,.int .i64 0]),2,24):=by kernel_rfl
theorem szSr_any (a:ByteArray) (m left:Int) (ha:a.size≤maxLen) (h0:0≤left) (h1:left≤1048576) (w:World) :
 Calls Tryz.prog 47 #[.agg #[.string a,.int .i64 m],.int .i64 left] w fun e w'=>e=.returned (.int .i64 (if (a.size:Int)≤left then left-a.size else -1))∧Below w.heap.size w w':=by
 unfold maxLen at ha
 have HB:=H_ (al_ w (Obj.cells #[.string a,.int .i64 m] 87))
 by_cases h:(a.size:Int)≤left
 ·rw [if_pos h]
  have g:¬left-(a.size:Int)<0:=by omega
  go_enter Tryz.func47,Tryz.ntmps47
  go_wp2_with fail
  go_ret
  exact ⟨rfl,HB.out⟩
 ·rw [if_neg h]
  have g:left-(a.size:Int)<0:=by omega
  go_enter Tryz.func47,Tryz.ntmps47
  go_wp2_with fail
  go_ret
  exact ⟨rfl,HB.out⟩
theorem szSrs_any (ao:Option Addr) (len cap:Nat) (cs:List Cr) (left:Int) (w:World) (hm:len≤maxLen) (h0:0≤left) (h1:left≤1048576) (hI:Crs ao len cs w) (hin:∀i,i<len→(cs.getD i Cr.zero).a.size≤maxLen) :
 Calls Tryz.prog 14 #[.slice ao len cap,.int .i64 left] w fun e w'=>SzOut left (len≤1048576∧∀i,i<len→(cs.getD i Cr.zero).a.size≤1048576) e∧Below w.heap.size w w':=by
 have HI:=H_ hI
 have HN:=H_ hin
 clear hI hin
 unfold maxLen at hm
 by_cases hl:left-(len:Int)<0
 ·go_enter Tryz.func14,Tryz.ntmps14
  go_wp2_with fail
  go_ret
  exact ⟨⟨-1,rfl,.inl rfl⟩,Below.refl _ _⟩
 ·go_enter Tryz.func14,Tryz.ntmps14
  go_wp2_with fail
  go_loopw [5,1] (fun x y wr=>∃(j:Nat) (L:Int),j≤len∧x=.int .i64 j∧y=.int .i64 L∧0≤L∧L≤left∧Hid (∀i,i<j→(cs.getD i Cr.zero).a.size≤1048576)∧Hid (Below w.heap.size w wr)) (fun x y _=>len-(intOf x).toNat)
  case atStart=>exact ⟨0,left-(len:Int),Nat.zero_le _,rfl,rfl,by omega,by omega,H_ (fun i hi=>absurd hi (by omega)),H_ (Below.refl _ _)⟩
  case round =>
   obtain ⟨j,L,hj,rfl,rfl,l0,l1,HL,HB⟩:=hrel
   by_cases hlt:j<len
   ·obtain ⟨b,off,rfl,hbl,c0,c1⟩:=crs_at (HI.out.below HB.out) j hlt
    have q1:=HN.out j hlt
    have HM:=H_ (fun h=>small_moreC HL.out (k:=j) h)
    generalize (cs.getD j Cr.zero)=X at *
    obtain ⟨a,m⟩:=X
    simp only at c0 c1 q1 HM
    have HC:=H_ (fun w=>szSr_any a m L q1 l0 (by omega) w)
    have hlt2:(j:Int)<(len:Int):=by omega
    clear q1
    by_cases hs:(a.size:Int)≤L
    ·rw [if_pos hs] at HC
     have r0:0≤L-(a.size:Int):=by omega
     have r1:L-(a.size:Int)≤left:=by omega
     have HN1:=H_ (HM.out (by omega))
     generalize L-(a.size:Int)=L2 at *
     clear hs
     go_wp2_with fail
     refine (HC.out _).mono ?_
     rintro e w1 ⟨rfl,hb⟩
     have HB1:=HT_ HB hb
     clear hb c0 c1
     have r2:¬L2<0:=by omega
     go_wp2_with fail
     go_roundw
     case rel=>exact ⟨j+1,L2,by omega,by go_num,rfl,r0,r1,HN1,HB1⟩
     case measure=>simp [intOf];omega
    ·rw [if_neg hs] at HC
     go_wp2_with fail
     refine (HC.out _).mono ?_
     rintro e w1 ⟨rfl,hb⟩
     have HB1:=HT_ HB hb
     clear hb c0 c1
     go_wp2_with fail
     go_ret
     exact ⟨⟨-1,rfl,.inl rfl⟩,HB1.out⟩
   ·obtain rfl:j=len:=by omega
    go_wp2_with fail
    go_ret
    exact ⟨⟨L,rfl,.inr ⟨l0,l1,by omega,HL.out⟩⟩,HB.out⟩
theorem toSr_any (u:ByteArray) (p:Int) (w:World):Calls Tryz.prog 66 #[.agg #[.string u,.int .i64 p]] w fun e w'=>e=.returned (.agg #[.string u,.int .i64 p])∧Below w.heap.size w w':=by
 go_enter Tryz.func66,Tryz.ntmps66
 go_wp2_with fail
 refine bodyPost_ret (v:=.agg #[.string u,.int .i64 p]) (by simp [results,Tryz.results66,go_sem]) rfl ⟨rfl,?_⟩
 repeat' first|exact Below.refl _ _|apply Below.setCell|apply Below.alloc
 all_goals first|omega|(simp;done)|(simp;omega)
theorem toSrs_any (ao:Option Addr) (len cap:Nat) (ts:List Cr) (w:World) (hlen:len≤1048576) (hI:Crs ao len ts w) :
 Calls Tryz.prog 23 #[.slice ao len cap] w fun e w'=>e=.returned (.slice (some ⟨w.heap.size,0,none⟩) len len)∧Crs (some ⟨w.heap.size,0,none⟩) len ts w'∧Pt w.heap.size (len*2) w'∧Below w.heap.size w w':=by
 obtain ⟨i0,hi,hz0,hz1,hz2⟩:=info_parts infoSrc
 have HI:=H_ hI
 clear hI
 go_enter Tryz.func23,Tryz.ntmps23
 go_wp2_with (at_make;refine wpList_make_full _ rfl _ _ 37 rfl w.heap.size 63 i0 (.agg #[.string ⟨#[]⟩,.int .i64 0]) 2 Tryz.underlying37 hi hz0 hz1 .i64 .i64 _ _ len rfl rfl rfl rfl ?b2 ?b3 ?b4 ?_)
 case b2=>rw [hz2];omega
 case b3=>unfold maxLen;omega
 case b4=>exact Nat.le_refl _
 intro wm hown hgrow
 have HP:=H_ (row_full hown)
 have HB:Hid (Below w.heap.size w wm):=H_ ((Below.refl _ _).grown hgrow (Nat.le_refl _) (fun k e=>by cases e))
 clear hown hgrow hi hz0 hz1 hz2
 go_wp2_with fail
 go_loopw [4] (fun z wr=>∃k:Nat,k≤len∧z=.int .i64 k∧Hid (Below w.heap.size w wr)∧Hid (Pt w.heap.size (len*2) wr)∧Hid (∀i,i<k→CrAt wr w.heap.size (i*2) (ts.getD i Cr.zero))) (fun z _=>len-(intOf z).toNat)
 case atStart=>exact ⟨0,by omega,rfl,HB,HP,H_ (fun i hi=>absurd hi (by omega))⟩
 case round =>
  obtain ⟨k,hk,rfl,HB,HP,HA⟩:=hrel
  by_cases hlt:k<len
  ·have hlt2:(k:Int)<(len:Int):=by omega
   obtain ⟨b,off,rfl,hbl,c0,c1⟩:=crs_at (HI.out.below HB.out) k hlt
   have HS:=H_ (fun W hp ha=>crs_set (wr:=W) (g:=w.heap.size) (n:=len) (k:=k) (ts:=ts) hp hlt ha)
   generalize (ts.getD k Cr.zero)=X at *
   obtain ⟨u,p⟩:=X
   have HC:=H_ (fun w=>toSr_any u p w)
   have HS:Hid (∀W,Pt w.heap.size (len*2) W→(∀i,i<k→CrAt W w.heap.size (i*2) (ts.getD i Cr.zero))→Pt w.heap.size (len*2) ((W.setCell ⟨w.heap.size,k*2,none⟩ (.string u)).setCell ⟨w.heap.size,k*2+1,none⟩ (.int .i64 p))∧∀i,i<k+1→CrAt ((W.setCell ⟨w.heap.size,k*2,none⟩ (.string u)).setCell ⟨w.heap.size,k*2+1,none⟩ (.int .i64 p)) w.heap.size (i*2) (ts.getD i Cr.zero)):=HS
   go_wp2_with fail
   refine (HC.out _).mono ?_
   rintro e w1 ⟨rfl,hb⟩
   have HP1:=H_ (HP.out.below hb)
   have HA1:Hid (∀i,i<k→CrAt w1 w.heap.size (i*2) (ts.getD i Cr.zero)):=H_ (fun i hi=>(HA.out i hi).below HP.out.lt hb)
   have HB1:=HT_ HB hb
   have HS1:=H_ (HS.out _ HP1.out HA1.out)
   obtain ⟨v0,d0⟩:=HP1.out.has (k*2) (by omega)
   obtain ⟨v1,d1⟩:=HP1.out.has (k*2+1) (by omega)
   have z0:=HP1.out.free (k*2) (by omega)
   have z1:=HP1.out.free (k*2+1) (by omega)
   clear hb c0 c1
   go_wp2_with fail
   go_roundw
   case rel=>exact ⟨k+1,by omega,by go_num,H_ ((HB1.out.setCell (Nat.le_refl _) _).setCell (Nat.le_refl _) _),H_ HS1.out.1,H_ HS1.out.2⟩
   case measure=>simp [intOf];omega
  ·have hlt2:¬(k:Int)<(len:Int):=by omega
   obtain rfl:k=len:=by omega
   go_wp2_with fail
   go_ret
   exact ⟨rfl,⟨HI.out.1,.inr ⟨w.heap.size,0,rfl,HP.out.lt,fun j hj=>by rw [Nat.zero_add];exact HA.out j hj⟩⟩,HP.out,HB.out⟩
end CatR
namespace SeenR
open CatR (SzOut)
open RowG
theorem szEns (ao:Option Addr) (cap:Nat) (es:List N) (left:Int) (w:World) (hm:es.length≤maxLen) (h0:0≤left) (h1:left≤1048576) (hI:Ens ao es w) (hin:∀e∈es,e.i.size≤maxLen) :
 Calls Tryz.prog 15 #[.slice ao es.length cap,.int .i64 left] w fun e w'=>SzOut left (es.length≤1048576∧∀e∈es,e.i.size≤1048576) e∧Below w.heap.size w w':=by
 have HI:=H_ hI
 have HIn:=H_ hin
 have HEND:Hid (∀L:Int,es.length≤1048576→(∀i,i<es.length→(fun e:N=>e.i.size≤1048576) (es.getD i N.zero))→0≤L→L≤left→SzOut left (es.length≤1048576∧∀e∈es,e.i.size≤1048576) (.returned (.int .i64 L))):=H_ (fun L a b c d=>⟨L,rfl,.inr ⟨c,d,a,fun e he=>by
  obtain ⟨i,hi,rfl⟩:=List.getElem_of_mem he
  have:=b i hi
  rwa [show es.getD i N.zero=es[i] by simp [List.getD,hi]] at this⟩⟩)
 have HBAD:Hid (SzOut left (es.length≤1048576∧∀e∈es,e.i.size≤1048576) (.returned (.int .i64 (-1)))):=H_ ⟨-1,rfl,.inl rfl⟩
 generalize SzOut left (es.length≤1048576∧∀e∈es,e.i.size≤1048576)=PO at *
 obtain ⟨len,hl⟩:∃len,len=es.length:=⟨_,rfl⟩
 rw [←hl] at hm HEND ⊢
 have HL:=H_ hl
 unfold maxLen at hm
 clear hI hin hl
 by_cases hbig:left-(len:Int)<0
 ·go_enter Tryz.func15,Tryz.ntmps15
  go_wp2_with fail
  go_ret
  exact ⟨HBAD.out,Below.refl _ _⟩
 go_enter Tryz.func15,Tryz.ntmps15
 go_wp2_with fail
 go_loopw [5,1] (fun x y wr=>∃(j:Nat) (L:Int),j≤len∧x=.int .i64 j∧y=.int .i64 L∧0≤L∧L≤left∧Hid (∀i,i<j→(fun e:N=>e.i.size≤1048576) (es.getD i N.zero))∧Hid (Below w.heap.size w wr)) (fun x _ _=>len-(intOf x).toNat)
 case atStart=>exact ⟨0,left-(len:Int),by omega,rfl,rfl,by omega,by omega,H_ (fun i hi=>absurd hi (by omega)),H_ (Below.refl _ _)⟩
 case round =>
  obtain ⟨j,L,hj,rfl,rfl,l0,l1,HD,HB⟩:=hrel
  by_cases hlt:j<len
  ·have hlt2:(j:Int)<(len:Int):=by omega
   have hkl:j<es.length:=by have:=HL.out;omega
   obtain ⟨b,off,rfl,hbl,c0,c1,c2⟩:=(HI.out.below HB.out).at j hkl
   have hx:=HIn.out _ (RowG.getD_mem (z:=N.zero) es j hkl)
   have HMR:Hid ((fun e:N=>e.i.size≤1048576) (es.getD j N.zero)→∀i,i<j+1→(fun e:N=>e.i.size≤1048576) (es.getD i N.zero)):=H_ (fun h i hi=>by
    by_cases e:i=j
    ·subst e;exact h
    ·exact HD.out i (by omega))
   generalize hX:es.getD j N.zero=X at *
   clear hX
   obtain ⟨xi,xn,xs⟩:=X
   dsimp only at c0 c1 c2 hx HMR
   have HC:=H_ (sz_any xi xn xs L hx l0 (by omega) wr)
   have HSM:Hid (¬(if (xi.size:Int)≤L then L-(xi.size:Int) else -1)<0→0≤(if (xi.size:Int)≤L then L-(xi.size:Int) else -1)∧(if (xi.size:Int)≤L then L-(xi.size:Int) else -1)≤L∧xi.size≤1048576):=H_ (fun h=>by split at h<;>split<;>omega)
   generalize (if (xi.size:Int)≤L then L-(xi.size:Int) else -1)=L2 at *
   clear hx
   clear HD
   by_cases hs:L2<0
   ·go_wp2_with fail
    refine HC.out.mono ?_
    rintro e w1 ⟨rfl,hb⟩
    have HB1:=HT_ HB hb
    clear hb c0 c1 c2
    go_wp2_with fail
    go_ret
    exact ⟨HBAD.out,HB1.out⟩
   ·obtain ⟨s0,s1,s2⟩:=HSM.out hs
    have HS2:=H_ (HMR.out s2)
    clear s2
    go_wp2_with fail
    refine HC.out.mono ?_
    rintro e w1 ⟨rfl,hb⟩
    have HB1:=HT_ HB hb
    clear hb c0 c1 c2
    go_wp2_with fail
    go_roundw
    case rel=>exact ⟨j+1,L2,by omega,by go_num,rfl,s0,by omega,HS2,HB1⟩
    case measure=>simp [intOf];omega
  ·have hlt2:¬(j:Int)<(len:Int):=by omega
   obtain rfl:j=len:=by omega
   go_wp2_with fail
   go_ret
   exact ⟨HEND.out L (by omega) HD.out l0 l1,HB.out⟩
end SeenR
namespace LedR
open CatR (SzOut)
open DocR LinR RowG
theorem szDsL (ao:Option Addr) (cap:Nat) (es:List D) (left:Int) (w:World) (hm:es.length≤maxLen) (h0:0≤left) (h1:left≤1048576) (hI:Dcs ao es w) (hin:∀e∈es,e.In∧(Lit.int .i64 e.mo).wf=true) :
 Calls Tryz.prog 17 #[.slice ao es.length cap,.int .i64 left] w fun e w'=>SzOut left (es.length≤1048576∧∀e∈es,e.Sm) e∧Below w.heap.size w w':=by
 have HI:=H_ hI
 have HIn:=H_ hin
 have HEND:Hid (∀L:Int,es.length≤1048576→(∀i,i<es.length→(fun e:D=>e.Sm) (es.getD i D.zero))→0≤L→L≤left→SzOut left (es.length≤1048576∧∀e∈es,e.Sm) (.returned (.int .i64 L))):=H_ (fun L a b c d=>⟨L,rfl,.inr ⟨c,d,a,fun e he=>by
  obtain ⟨i,hi,rfl⟩:=List.getElem_of_mem he
  have:=b i hi
  rwa [show es.getD i D.zero=es[i] by simp [List.getD,hi]] at this⟩⟩)
 have HBAD:Hid (SzOut left (es.length≤1048576∧∀e∈es,e.Sm) (.returned (.int .i64 (-1)))):=H_ ⟨-1,rfl,.inl rfl⟩
 generalize SzOut left (es.length≤1048576∧∀e∈es,e.Sm)=PO at *
 obtain ⟨len,hl⟩:∃len,len=es.length:=⟨_,rfl⟩
 rw [←hl] at hm HEND ⊢
 have HL:=H_ hl
 unfold maxLen at hm
 clear hI hin hl
 by_cases hbig:left-(len:Int)<0
 ·go_enter Tryz.func17,Tryz.ntmps17
  go_wp2_with fail
  go_ret
  exact ⟨HBAD.out,Below.refl _ _⟩
 go_enter Tryz.func17,Tryz.ntmps17
 go_wp2_with fail
 go_loopw [5,1] (fun x y wr=>∃(j:Nat) (L:Int),j≤len∧x=.int .i64 j∧y=.int .i64 L∧0≤L∧L≤left∧Hid (∀i,i<j→(fun e:D=>e.Sm) (es.getD i D.zero))∧Hid (Below w.heap.size w wr)) (fun x _ _=>len-(intOf x).toNat)
 case atStart=>exact ⟨0,left-(len:Int),by omega,rfl,rfl,by omega,by omega,H_ (fun i hi=>absurd hi (by omega)),H_ (Below.refl _ _)⟩
 case round =>
  obtain ⟨j,L,hj,rfl,rfl,l0,l1,HD,HB⟩:=hrel
  by_cases hlt:j<len
  ·have hlt2:(j:Int)<(len:Int):=by omega
   have hkl:j<es.length:=by have:=HL.out;omega
   obtain ⟨b,off,la,lc,rfl,hbl,c0,c1,c2,c3,hLi⟩:=(HI.out.below HB.out).at j hkl
   have hx:=HIn.out _ (RowG.getD_mem (z:=D.zero) es j hkl)
   have HMR:Hid ((fun e:D=>e.Sm) (es.getD j D.zero)→∀i,i<j+1→(fun e:D=>e.Sm) (es.getD i D.zero)):=H_ (fun h i hi=>by
    by_cases e:i=j
    ·subst e;exact h
    ·exact HD.out i (by omega))
   generalize hX:es.getD j D.zero=X at *
   clear hX
   have HC:=H_ (szD_any X la lc L wr l0 (by omega) hx.1 hLi)
   have HSM:Hid (¬dszR L X<0→0≤dszR L X∧dszR L X≤L∧X.Sm):=H_ (fun h=>⟨by omega,(dsz_small (by omega) h).2,(dsz_small (by omega) h).1⟩)
   obtain ⟨xa,xm,xs,xl⟩:=X
   unfold dcells at HC
   dsimp only at c0 c1 c2 c3 HC
   generalize dszR L ⟨xa,xm,xs,xl⟩=L2 at *
   generalize xl.length=ll at *
   clear hLi hx
   clear HD
   by_cases hs:L2<0
   ·go_wp2_with fail
    refine HC.out.mono ?_
    rintro e w1 ⟨rfl,hb⟩
    have HB1:=HT_ HB hb
    clear hb c0 c1 c2 c3
    go_wp2_with fail
    go_ret
    exact ⟨HBAD.out,HB1.out⟩
   ·obtain ⟨s0,s1,s2⟩:=HSM.out hs
    have HS2:=H_ (HMR.out s2)
    clear s2
    go_wp2_with fail
    refine HC.out.mono ?_
    rintro e w1 ⟨rfl,hb⟩
    have HB1:=HT_ HB hb
    clear hb c0 c1 c2 c3
    go_wp2_with fail
    go_roundw
    case rel=>exact ⟨j+1,L2,by omega,by go_num,rfl,s0,by omega,HS2,HB1⟩
    case measure=>simp [intOf];omega
  ·have hlt2:¬(j:Int)<(len:Int):=by omega
   obtain rfl:j=len:=by omega
   go_wp2_with fail
   go_ret
   exact ⟨HEND.out L (by omega) HD.out l0 l1,HB.out⟩
end LedR
end Go.Proofs.YtnceeaccbcfopaaGreatDoor
