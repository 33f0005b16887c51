/-
  Lists of windows: read, how many letters, the law's own copies, held against each other. The condition: sizes of at most 1048576.
-/
import Derived.Test.YtnceeaccbcfopaaGreatDoorT40
namespace Go.Proofs.YtnceeaccbcfopaaGreatDoor
open Go.ChangeShapes Go.WideShapes Go.ChangeAt Go.RowKit
set_option linter.unusedVariables false
namespace WinR
open RowG
open EvtR (Pt cell_put cell_far)
open CatR (SzOut)
open Go.Deep
def Wd.zero:Wd:=⟨⟨#[]⟩,⟨#[]⟩,0,0,0,0,[],[]⟩
def WinAt (w:World) (b o:Nat) (x:Wd):Prop:=∃ta tc ha hc,w.cell? ⟨b,o,none⟩=some (.string x.a)∧w.cell? ⟨b,o+1,none⟩=some (.string x.m)∧w.cell? ⟨b,o+2,none⟩=some (.int .i64 x.mo)∧w.cell? ⟨b,o+3,none⟩=some (.int .i64 x.ev)∧w.cell? ⟨b,o+4,none⟩=some (.int .i64 x.su)∧w.cell? ⟨b,o+5,none⟩=some (.int .i64 x.mx)∧w.cell? ⟨b,o+6,none⟩=some (.slice ta x.ts.length tc)∧w.cell? ⟨b,o+7,none⟩=some (.slice ha x.hs.length hc)∧Tgs ta x.ts w∧Hrs ha x.hs w
def Wns (ao:Option Addr) (ws:List Wd) (w:World):Prop:=ws.length=0∨∃b off,ao=some ⟨b,off,none⟩∧b<w.heap.size∧∀j,j<ws.length→WinAt w b (off+j*8) (ws.getD j Wd.zero)
theorem WinAt.below {w w':World} {b o:Nat} {x:Wd} (h:WinAt w b o x) (hl:b<w.heap.size) (hb:Below w.heap.size w w'):WinAt w' b o x:=by
 obtain ⟨ta,tc,ha,hc,h0,h1,h2,h3,h4,h5,h6,h7,hT,hH⟩:=h
 have f:=fun k=>hb.cell (p:=⟨b,k,none⟩) hl
 exact ⟨ta,tc,ha,hc,(f _).trans h0,(f _).trans h1,(f _).trans h2,(f _).trans h3,(f _).trans h4,(f _).trans h5,(f _).trans h6,(f _).trans h7,hT.below hb,hH.below hb⟩
theorem Wns.below {ao:Option Addr} {ws:List Wd} {w w':World} (h:Wns ao ws w) (hb:Below w.heap.size w w'):Wns ao ws w' :=
 h.imp id (fun ⟨b,off,e,hl,hc⟩=>⟨b,off,e,by have:=hb.size;omega,fun j hj=>(hc j hj).below hl hb⟩)
theorem Wns.at {ao:Option Addr} {ws:List Wd} {w:World} (h:Wns ao ws w) (j:Nat) (hj:j<ws.length):∃b off ta tc ha hc,ao=some ⟨b,off,none⟩∧b<w.heap.size∧w.cell? ⟨b,off+j*8,none⟩=some (.string (ws.getD j Wd.zero).a)∧w.cell? ⟨b,off+j*8+1,none⟩=some (.string (ws.getD j Wd.zero).m)∧w.cell? ⟨b,off+j*8+2,none⟩=some (.int .i64 (ws.getD j Wd.zero).mo)∧w.cell? ⟨b,off+j*8+3,none⟩=some (.int .i64 (ws.getD j Wd.zero).ev)∧w.cell? ⟨b,off+j*8+4,none⟩=some (.int .i64 (ws.getD j Wd.zero).su)∧w.cell? ⟨b,off+j*8+5,none⟩=some (.int .i64 (ws.getD j Wd.zero).mx)∧w.cell? ⟨b,off+j*8+6,none⟩=some (.slice ta (ws.getD j Wd.zero).ts.length tc)∧w.cell? ⟨b,off+j*8+7,none⟩=some (.slice ha (ws.getD j Wd.zero).hs.length hc)∧Tgs ta (ws.getD j Wd.zero).ts w∧Hrs ha (ws.getD j Wd.zero).hs w:=by
 rcases h with h0|⟨b,off,e,hl,hc⟩
 ·omega
 ·obtain ⟨ta,tc,ha,hc,h⟩:=hc j hj
  exact ⟨b,off,ta,tc,ha,hc,e,hl,h⟩
def IsWns (w:World) (a:Option Addr) (ws:List Wd):Prop:=ws.length≤maxLen∧Wns a ws w∧∀x∈ws,x.In
section
variable {J:Type} {enc:TypeId × Value→J} {P:Program} {w:World} {base:Nat} {spare:Nat→Bool} {held:Bool}
theorem wns_open {t e te th:TypeId} {f0 f1 f2 f3 f4 f5 f6 f7 g0 g1:Field} {fuel:Nat} {ao:Option Addr} {len cap:Nat} {x:DataW J × List MemPlace} (htt:P.underlying t=some (.slice e)) (hs:P.underlying e=some (.struct #[f0,f1,f2,f3,f4,f5,f6,f7])) (hone:oneCellFields P #[f0,f1,f2,f3,f4,f5,f6,f7]=true) (hC:P.cellsOf e=8)
 (u0:P.underlying f0.type=some .string) (u1:P.underlying f1.type=some .string) (u2:P.underlying f2.type=some (.int .i64)) (u3:P.underlying f3.type=some (.int .i64)) (u4:P.underlying f4.type=some (.int .i64)) (u5:P.underlying f5.type=some (.int .i64)) (u6:P.underlying f6.type=some (.slice te)) (u7:P.underlying f7.type=some (.slice th))
 (ut:P.underlying te=some .string) (hCt:P.cellsOf te=1) (hs2:P.underlying th=some (.struct #[g0,g1])) (hone2:oneCellFields P #[g0,g1]=true) (hC2:P.cellsOf th=2) (v0:P.underlying g0.type=some (.int .i64)) (v1:P.underlying g1.type=some (.int .i64))
 (h:DataW.trod enc P w base spare held fuel t [.slice ao len cap]=some x):∃ws:List Wd,ws.length=len∧IsWns w ao ws:=by
 obtain ⟨h1,f,hq,h2⟩:=CatR.row_open 8 (fun (x:Wd) cs=>∃ta tc ha hc,cs=(wcells x ta tc ha hc).toList∧x.In∧Tgs ta x.ts w∧Hrs ha x.hs w) Wd.zero htt hC (by omega) (fun fuel cs y h=>by
  obtain ⟨x,ta,tc,ha,hc,e,hi,hT,hH⟩:=win_open hs hone hC u0 u1 u2 u3 u4 u5 u6 u7 ut hCt hs2 hone2 hC2 v0 v1 h
  exact ⟨x,⟨ta,tc,ha,hc,e,hi,hT,hH⟩,by rw [e];rfl⟩) h
 refine ⟨(List.range len).map f,by simp,by simpa using h1,?_,fun x hx=>?_⟩
 ·rcases h2 with h2|⟨b,off,rfl,hb,hc⟩
  ·exact .inl (by simpa using h2)
  ·refine .inr ⟨b,off,rfl,hb,fun j hj=>?_⟩
   have hj':j<len:=by simpa using hj
   obtain ⟨cs,⟨ta,tc,ha,hc2,rfl,_,hT,hH⟩,g⟩:=hc j hj'
   rw [CatR.lst_getD f _ len j hj']
   exact ⟨ta,tc,ha,hc2,g 0 (by omega),g 1 (by omega),g 2 (by omega),g 3 (by omega),g 4 (by omega),g 5 (by omega),g 6 (by omega),g 7 (by omega),hT,hH⟩
 ·obtain ⟨i,hi,rfl⟩:=List.mem_map.1 hx
  obtain ⟨cs,ta,tc,ha,hc,_,h3,_,_⟩:=hq i (List.mem_range.1 hi)
  exact h3
end
set_option maxRecDepth 100000 in
set_option maxHeartbeats 4000000 in
theorem szWs (ao:Option Addr) (cap:Nat) (ws:List Wd) (left:Int) (w:World) (hm:ws.length≤maxLen) (h0:0≤left) (h1:left≤1048576) (hI:Wns ao ws w) (hin:∀x∈ws,x.In) :
 Calls Tryz.prog 16 #[.slice ao ws.length cap,.int .i64 left] w fun e w'=>SzOut left (ws.length≤1048576∧∀i,i<ws.length→(ws.getD i Wd.zero).Small) e∧Below w.heap.size w w':=by
 have HI:=H_ hI
 have HIn:=H_ hin
 have HEND:Hid (∀L:Int,ws.length≤1048576→(∀i,i<ws.length→(ws.getD i Wd.zero).Small)→0≤L→L≤left→SzOut left (ws.length≤1048576∧∀i,i<ws.length→(ws.getD i Wd.zero).Small) (.returned (.int .i64 L))):=H_ (fun L a b c d=>⟨L,rfl,.inr ⟨c,d,a,b⟩⟩)
 have HBAD:Hid (SzOut left (ws.length≤1048576∧∀i,i<ws.length→(ws.getD i Wd.zero).Small) (.returned (.int .i64 (-1)))):=H_ ⟨-1,rfl,.inl rfl⟩
 generalize SzOut left (ws.length≤1048576∧∀i,i<ws.length→(ws.getD i Wd.zero).Small)=PO at *
 obtain ⟨len,hl⟩:∃len,len=ws.length:=⟨_,rfl⟩
 rw [←hl] at hm HEND ⊢
 have HL:=H_ hl
 unfold maxLen at hm
 clear hI hin hl
 by_cases hbig:left-(len:Int)<0
 ·go_enter Tryz.func16,Tryz.ntmps16
  go_wp2_with fail
  go_ret
  exact ⟨HBAD.out,Below.refl _ _⟩
 go_enter Tryz.func16,Tryz.ntmps16
 go_wp2_with fail
 go_loopw [5,1] (fun x y wr=>∃(j:Nat) (L:Int),j≤len∧x=.int .i64 j∧y=.int .i64 L∧0≤L∧L≤left∧Hid (∀i,i<j→(ws.getD i Wd.zero).Small)∧Hid (Below w.heap.size w wr)) (fun x _ _=>len-(intOf x).toNat)
 case atStart=>exact ⟨0,left-(len:Int),by omega,rfl,rfl,by omega,by omega,H_ (fun i hi=>absurd hi (by omega)),H_ (Below.refl _ _)⟩
 case round =>
  obtain ⟨j,L,hj,rfl,rfl,l0,l1,HD,HB⟩:=hrel
  by_cases hlt:j<len
  ·have hlt2:(j:Int)<(len:Int):=by omega
   have hkl:j<ws.length:=by have:=HL.out;omega
   obtain ⟨b,off,ta,tc,ha,hc,rfl,hbl,c0,c1,c2,c3,c4,c5,c6,c7,hT,hH⟩:=(HI.out.below HB.out).at j hkl
   have HC:=H_ (szW_any (ws.getD j Wd.zero) ta tc ha hc L wr l0 (by omega) (HIn.out _ (getD_mem (z:=Wd.zero) ws j hkl)) hT)
   have HSM:Hid (¬wszR (ws.getD j Wd.zero) L<0→0≤wszR (ws.getD j Wd.zero) L∧wszR (ws.getD j Wd.zero) L≤L∧∀i,i<j+1→(ws.getD i Wd.zero).Small):=H_ (fun h=>by
    obtain ⟨h2,h3,h4⟩:=wsz_small (by omega) h
    refine ⟨h3,?_,fun i hi=>?_⟩
    ·have n0:=tsz_nn (ws.getD j Wd.zero).ts
     unfold wszR at h ⊢
     split at h<;>split<;>omega
    ·by_cases e:i=j
     ·subst e;exact h2
     ·exact HD.out i (by omega))
   generalize hX:ws.getD j Wd.zero=X at *
   clear hX
   obtain ⟨xa,xm,xo,xe,xs,xx,xt,xh⟩:=X
   unfold wcells at HC
   dsimp only at c0 c1 c2 c3 c4 c5 c6 c7 HC
   generalize wszR ⟨xa,xm,xo,xe,xs,xx,xt,xh⟩ L=L2 at *
   generalize xt.length=tl at *
   generalize xh.length=hl at *
   clear hT hH HD
   by_cases hs:L2<0
   ·go_wp2_with fail
    refine HC.out.mono ?_
    rintro e w1 ⟨rfl,hb⟩
    have HB1:=H_ (HB.out.trans (hb.mono HB.out.size))
    clear hb c0 c1 c2 c3 c4 c5 c6 c7
    go_wp2_with fail
    go_ret
    exact ⟨HBAD.out,HB1.out⟩
   ·obtain ⟨s0,s1,s2⟩:=HSM.out hs
    have HS2:=H_ s2
    clear s2
    go_wp2_with fail
    refine HC.out.mono ?_
    rintro e w1 ⟨rfl,hb⟩
    have HB1:=H_ (HB.out.trans (hb.mono HB.out.size))
    clear hb c0 c1 c2 c3 c4 c5 c6 c7
    go_wp2_with fail
    go_roundw
    case rel=>exact ⟨j+1,L2,by omega,by go_num,rfl,s0,by omega,HS2,HB1⟩
    case measure=>simp [intOf];omega
  ·have hlt2:¬(j:Int)<(len:Int):=by omega
   obtain rfl:j=len:=by omega
   go_wp2_with fail
   go_ret
   exact ⟨HEND.out L (by omega) HD.out l0 l1,HB.out⟩
theorem infoWd:(Tryz.prog.info? 106).map (fun i=>(i.zero,i.size,i.bytes))=some (some (.agg #[.string ⟨#[]⟩,.string ⟨#[]⟩,.int .i64 0,.int .i64 0,.int .i64 0,.int .i64 0,.slice none 0 0,.slice none 0 0]),8,112):=by kernel_rfl
def Inn (g t:Nat) (a:Option Addr) (n m:Nat) (W:World):Prop:=n=0∨∃g',a=some ⟨g',0,none⟩∧g<g'∧g'<t∧Pt g' m W
theorem ptA {p q n o:Nat} {W:World} {v:Value} (h:Pt p n W):Pt p n (W.setCell ⟨q,o,none⟩ v):=by
 by_cases e:p=q
 ·subst e;exact h.set _ _
 ·have eb:=(grown_set W q o v).block p h.lt (by simp;exact e)
  exact ⟨by have:=h.lt;simpa using this,fun x hx=>by obtain ⟨u,hu⟩:=h.has x hx;exact ⟨u,(World.cell?_of_block (a:=⟨p,x,none⟩) eb).trans hu⟩,fun x hx=>(World.frozen?_of_block (a:=⟨p,x,none⟩) eb).trans (h.free x hx)⟩
theorem Inn.ne {g t:Nat} {a:Option Addr} {n m:Nat} {W:World} (h:Inn g t a n m W):n=0∨∀b off,a=some ⟨b,off,none⟩→b≠g:=h.imp id (fun ⟨g',e1,e2,_⟩ b off e=>by rw [e1] at e;simp at e;omega)
theorem Inn.below {g t t':Nat} {a:Option Addr} {n m:Nat} {W W':World} (h:Inn g t a n m W) (hb:Below W.heap.size W W') (ht:t≤t'):Inn g t' a n m W':=h.imp id (fun ⟨g',e1,e2,e3,e4⟩=>⟨g',e1,e2,by omega,e4.below hb⟩)
theorem Inn.put {g t q o:Nat} {a:Option Addr} {n m:Nat} {W:World} {v:Value} (h:Inn g t a n m W):Inn g t a n m (W.setCell ⟨q,o,none⟩ v):=h.imp id (fun ⟨g',e1,e2,e3,e4⟩=>⟨g',e1,e2,e3,ptA e4⟩)
theorem Inn.top {g t t':Nat} {a:Option Addr} {n m:Nat} {W:World} (h:Inn g t a n m W) (ht:t≤t'):Inn g t' a n m W:=h.imp id (fun ⟨g',e1,e2,e3,e4⟩=>⟨g',e1,e2,by omega,e4⟩)
def WW (g k:Nat) (ws:List Wd) (W:World):Prop:=∀j,j<k→∃ta tc ha hc,W.cell? ⟨g,j*8,none⟩=some (.string (ws.getD j Wd.zero).a)∧W.cell? ⟨g,j*8+1,none⟩=some (.string (ws.getD j Wd.zero).m)∧W.cell? ⟨g,j*8+2,none⟩=some (.int .i64 (ws.getD j Wd.zero).mo)∧W.cell? ⟨g,j*8+3,none⟩=some (.int .i64 (ws.getD j Wd.zero).ev)∧W.cell? ⟨g,j*8+4,none⟩=some (.int .i64 (ws.getD j Wd.zero).su)∧W.cell? ⟨g,j*8+5,none⟩=some (.int .i64 (ws.getD j Wd.zero).mx)∧W.cell? ⟨g,j*8+6,none⟩=some (.slice ta (ws.getD j Wd.zero).ts.length tc)∧W.cell? ⟨g,j*8+7,none⟩=some (.slice ha (ws.getD j Wd.zero).hs.length hc)∧Tgs ta (ws.getD j Wd.zero).ts W∧Hrs ha (ws.getD j Wd.zero).hs W∧Inn g W.heap.size ta (ws.getD j Wd.zero).ts.length ((ws.getD j Wd.zero).ts.length*1) W∧Inn g W.heap.size ha (ws.getD j Wd.zero).hs.length ((ws.getD j Wd.zero).hs.length*2) W
theorem WW.below {g k:Nat} {ws:List Wd} {W W':World} (h:WW g k ws W) (hg:g<W.heap.size) (hb:Below W.heap.size W W'):WW g k ws W':=by
 intro j hj
 obtain ⟨ta,tc,ha,hc,c0,c1,c2,c3,c4,c5,c6,c7,hT,hH,n1,n2⟩:=h j hj
 have f:=fun x=>hb.cell (p:=⟨g,x,none⟩) hg
 exact ⟨ta,tc,ha,hc,(f _).trans c0,(f _).trans c1,(f _).trans c2,(f _).trans c3,(f _).trans c4,(f _).trans c5,(f _).trans c6,(f _).trans c7,hT.below hb,hH.below hb,n1.below hb hb.size,n2.below hb hb.size⟩
theorem WW.put {g k o:Nat} {ws:List Wd} {W:World} (h:WW g k ws W) (ho:k*8≤o) (v:Value):WW g k ws (W.setCell ⟨g,o,none⟩ v):=by
 intro j hj
 obtain ⟨ta,tc,ha,hc,c0,c1,c2,c3,c4,c5,c6,c7,hT,hH,n1,n2⟩:=h j hj
 exact ⟨ta,tc,ha,hc,(cell_far _ _ (by omega) v).trans c0,(cell_far _ _ (by omega) v).trans c1,(cell_far _ _ (by omega) v).trans c2,(cell_far _ _ (by omega) v).trans c3,(cell_far _ _ (by omega) v).trans c4,(cell_far _ _ (by omega) v).trans c5,(cell_far _ _ (by omega) v).trans c6,(cell_far _ _ (by omega) v).trans c7,DocR.Rws.put hT g o v n1.ne,DocR.Rws.put hH g o v n2.ne,n1.put.top (by simp),n2.put.top (by simp)⟩
theorem WW.more {g k n:Nat} {ws:List Wd} {W:World} (h:WW g k ws W) (hp:Pt g n W) (hk:k*8+7<n) (ta ha:Option Addr) (tc hc:Nat) (hT:Tgs ta (ws.getD k Wd.zero).ts W) (hH:Hrs ha (ws.getD k Wd.zero).hs W) (n1:Inn g W.heap.size ta (ws.getD k Wd.zero).ts.length ((ws.getD k Wd.zero).ts.length*1) W) (n2:Inn g W.heap.size ha (ws.getD k Wd.zero).hs.length ((ws.getD k Wd.zero).hs.length*2) W) :
 WW g (k+1) ws ((((((((W.setCell ⟨g,k*8,none⟩ (.string (ws.getD k Wd.zero).a)).setCell ⟨g,k*8+1,none⟩ (.string (ws.getD k Wd.zero).m)).setCell ⟨g,k*8+2,none⟩ (.int .i64 (ws.getD k Wd.zero).mo)).setCell ⟨g,k*8+3,none⟩ (.int .i64 (ws.getD k Wd.zero).ev)).setCell ⟨g,k*8+4,none⟩ (.int .i64 (ws.getD k Wd.zero).su)).setCell ⟨g,k*8+5,none⟩ (.int .i64 (ws.getD k Wd.zero).mx)).setCell ⟨g,k*8+6,none⟩ (.slice ta (ws.getD k Wd.zero).ts.length tc)).setCell ⟨g,k*8+7,none⟩ (.slice ha (ws.getD k Wd.zero).hs.length hc)):=by
 intro j hj
 by_cases e:j=k
 ·subst e
  have p0:=hp
  have p1:=p0.set (j*8) (.string (ws.getD j Wd.zero).a)
  have p2:=p1.set (j*8+1) (.string (ws.getD j Wd.zero).m)
  have p3:=p2.set (j*8+2) (.int .i64 (ws.getD j Wd.zero).mo)
  have p4:=p3.set (j*8+3) (.int .i64 (ws.getD j Wd.zero).ev)
  have p5:=p4.set (j*8+4) (.int .i64 (ws.getD j Wd.zero).su)
  have p6:=p5.set (j*8+5) (.int .i64 (ws.getD j Wd.zero).mx)
  have p7:=p6.set (j*8+6) (.slice ta (ws.getD j Wd.zero).ts.length tc)
  refine ⟨ta,tc,ha,hc,?_,?_,?_,?_,?_,?_,?_,cell_put p7 _ hk _,DocR.Rws.put (DocR.Rws.put (DocR.Rws.put (DocR.Rws.put (DocR.Rws.put (DocR.Rws.put (DocR.Rws.put (DocR.Rws.put (hT) g _ _ n1.ne) g _ _ n1.ne) g _ _ n1.ne) g _ _ n1.ne) g _ _ n1.ne) g _ _ n1.ne) g _ _ n1.ne) g _ _ n1.ne,DocR.Rws.put (DocR.Rws.put (DocR.Rws.put (DocR.Rws.put (DocR.Rws.put (DocR.Rws.put (DocR.Rws.put (DocR.Rws.put (hH) g _ _ n2.ne) g _ _ n2.ne) g _ _ n2.ne) g _ _ n2.ne) g _ _ n2.ne) g _ _ n2.ne) g _ _ n2.ne) g _ _ n2.ne,?_,?_⟩
  ·rw [cell_far _ _ (by omega),cell_far _ _ (by omega),cell_far _ _ (by omega),cell_far _ _ (by omega),cell_far _ _ (by omega),cell_far _ _ (by omega),cell_far _ _ (by omega),cell_put p0 _ (by omega)]
  ·rw [cell_far _ _ (by omega),cell_far _ _ (by omega),cell_far _ _ (by omega),cell_far _ _ (by omega),cell_far _ _ (by omega),cell_far _ _ (by omega),cell_put p1 _ (by omega)]
  ·rw [cell_far _ _ (by omega),cell_far _ _ (by omega),cell_far _ _ (by omega),cell_far _ _ (by omega),cell_far _ _ (by omega),cell_put p2 _ (by omega)]
  ·rw [cell_far _ _ (by omega),cell_far _ _ (by omega),cell_far _ _ (by omega),cell_far _ _ (by omega),cell_put p3 _ (by omega)]
  ·rw [cell_far _ _ (by omega),cell_far _ _ (by omega),cell_far _ _ (by omega),cell_put p4 _ (by omega)]
  ·rw [cell_far _ _ (by omega),cell_far _ _ (by omega),cell_put p5 _ (by omega)]
  ·rw [cell_far _ _ (by omega),cell_put p6 _ (by omega)]
  ·exact Inn.top (n1.put.put.put.put.put.put.put.put) (by simp)
  ·exact Inn.top (n2.put.put.put.put.put.put.put.put) (by simp)
 ·exact (((((((((h.put (by omega) _).put (by omega) _).put (by omega) _).put (by omega) _).put (by omega) _).put (by omega) _).put (by omega) _).put (by omega) _)) j (by omega)
def WX (g t k:Nat) (ws:List Wd) (W:World):Prop:=∀j,j<k→∃ta tc ha hc,W.cell? ⟨g,j*8+6,none⟩=some (.slice ta (ws.getD j Wd.zero).ts.length tc)∧W.cell? ⟨g,j*8+7,none⟩=some (.slice ha (ws.getD j Wd.zero).hs.length hc)∧Inn g t ta (ws.getD j Wd.zero).ts.length ((ws.getD j Wd.zero).ts.length*1) W∧Inn g t ha (ws.getD j Wd.zero).hs.length ((ws.getD j Wd.zero).hs.length*2) W
theorem WW.wx {g k:Nat} {ws:List Wd} {W:World} (h:WW g k ws W):WX g W.heap.size k ws W:=fun j hj=>by
 obtain ⟨ta,tc,ha,hc,_,_,_,_,_,_,c6,c7,_,_,n1,n2⟩:=h j hj
 exact ⟨ta,tc,ha,hc,c6,c7,n1,n2⟩
theorem WW.wns {g:Nat} {ws:List Wd} {W:World} (h:WW g ws.length ws W) (hg:g<W.heap.size):Wns (some ⟨g,0,none⟩) ws W:=.inr ⟨g,0,rfl,hg,fun j hj=>by
 obtain ⟨ta,tc,ha,hc,c0,c1,c2,c3,c4,c5,c6,c7,hT,hH,_⟩:=h j hj
 exact ⟨ta,tc,ha,hc,by rw [Nat.zero_add];exact c0,by rw [Nat.zero_add];exact c1,by rw [Nat.zero_add];exact c2,by rw [Nat.zero_add];exact c3,by rw [Nat.zero_add];exact c4,by rw [Nat.zero_add];exact c5,by rw [Nat.zero_add];exact c6,by rw [Nat.zero_add];exact c7,hT,hH⟩⟩
set_option maxRecDepth 100000 in
set_option maxHeartbeats 8000000 in
theorem toWs (ao:Option Addr) (cap:Nat) (ws:List Wd) (w:World) (hlen:ws.length≤1048576) (hSm:∀i,i<ws.length→(ws.getD i Wd.zero).Small) (hI:Wns ao ws w) :
 Calls Tryz.prog 25 #[.slice ao ws.length cap] w fun e w'=>e=.returned (.slice (some ⟨w.heap.size,0,none⟩) ws.length ws.length)∧WW w.heap.size ws.length ws w'∧Pt w.heap.size (ws.length*8) w'∧Below w.heap.size w w':=by
 obtain ⟨i0,hi,hz0,hz1,hz2⟩:=info_parts infoWd
 have HI:=H_ hI
 have HSm:=H_ hSm
 obtain ⟨len,hl⟩:∃len,len=ws.length:=⟨_,rfl⟩
 rw [←hl] at hlen ⊢
 have HL:=H_ hl
 clear hI hl hSm
 go_enter Tryz.func25,Tryz.ntmps25
 go_wp2_with (at_make;refine wpList_make_full _ rfl _ _ 39 rfl w.heap.size 106 i0 (.agg #[.string ⟨#[]⟩,.string ⟨#[]⟩,.int .i64 0,.int .i64 0,.int .i64 0,.int .i64 0,.slice none 0 0,.slice none 0 0]) 8 Tryz.underlying39 hi hz0 hz1 .i64 .i64 _ _ len rfl rfl rfl rfl ?b2 ?b3 ?b4 ?_)
 case b2=>rw [hz2];omega
 case b3=>unfold maxLen;omega
 case b4=>exact Nat.le_refl _
 intro wm hown hgrow
 have HB0:Hid (Below w.heap.size w wm):=H_ ((Below.refl _ _).grown hgrow (Nat.le_refl _) (fun k e=>by cases e))
 have HP0:=H_ (row_full hown)
 clear hown hgrow hi hz0 hz1 hz2
 go_wp2_with fail
 go_loopw [4] (fun z wr=>∃k:Nat,k≤len∧z=.int .i64 k∧Hid (Below w.heap.size w wr)∧Hid (Pt w.heap.size (len*8) wr)∧Hid (WW w.heap.size k ws wr)) (fun z _=>len-(intOf z).toNat)
 case atStart=>exact ⟨0,by omega,rfl,HB0,HP0,H_ (fun j hj=>absurd hj (by omega))⟩
 case round =>
  obtain ⟨k,hk,rfl,HB,HP,HW⟩:=hrel
  by_cases hlt:k<len
  ·have hlt2:(k:Int)<(len:Int):=by omega
   have hkl:k<ws.length:=by have:=HL.out;omega
   obtain ⟨b,off,ta,tc,ha,hc,rfl,hbl,c0,c1,c2,c3,c4,c5,c6,c7,hT,hH⟩:=(HI.out.below HB.out).at k hkl
   have hsm:=HSm.out k hkl
   have HC:=H_ (toW_any (.agg (wcells (ws.getD k Wd.zero) ta tc ha hc)) (ws.getD k Wd.zero) wr hsm.2.2.1 hsm.2.2.2.2 ⟨ta,tc,ha,hc,rfl,hT,hH⟩)
   have HMORE:=H_ (fun (W:World) (h:WW w.heap.size k ws W) (hp:Pt w.heap.size (len*8) W) ta ha tc hc hT hH n1 n2=>h.more hp (by omega) ta ha tc hc hT hH n1 n2)
   obtain ⟨X,hX⟩:∃X,X=ws.getD k Wd.zero:=⟨_,rfl⟩
   rw [←hX] at c0 c1 c2 c3 c4 c5 c6 c7 HC HMORE
   clear hX hsm hT hH
   obtain ⟨xa,xm,xo,xe,xs,xx,xt,xh⟩:=X
   unfold wcells at HC
   dsimp only at c0 c1 c2 c3 c4 c5 c6 c7 HC HMORE
   have hsz0:=HP.out.lt
   go_wp2_with fail
   refine HC.out.mono ?_
   rintro e w1 ⟨v,rfl,⟨ta1,tc1,ha1,hc1,rfl,hm,hn,_⟩,hb⟩
   replace HW:=H_ (HW.out.below hsz0 hb)
   replace HP:=H_ (HP.out.below hb)
   replace HB:=H_ (HB.out.trans (hb.mono HB.out.size))
   have HM1:=H_ (HMORE.out w1 HW.out HP.out ta1 ha1 tc1 hc1 hm.rws hn.rws (hm.own.imp id (fun ⟨g',e1,e2,e3⟩=>⟨g',e1,by omega,e3.lt,e3⟩)) (hn.own.imp id (fun ⟨g',e1,e2,e3⟩=>⟨g',e1,by omega,e3.lt,e3⟩)))
   have HP1:=H_ (((((((((HP.out.set (k*8) (.string xa)).set (k*8+1) (.string xm)).set (k*8+2) (.int .i64 xo)).set (k*8+3) (.int .i64 xe)).set (k*8+4) (.int .i64 xs)).set (k*8+5) (.int .i64 xx)).set (k*8+6) (.slice ta1 xt.length tc1)).set (k*8+7) (.slice ha1 xh.length hc1)))
   have HB1:Hid (Below w.heap.size w ((((((((w1.setCell ⟨w.heap.size,k*8,none⟩ (.string xa)).setCell ⟨w.heap.size,k*8+1,none⟩ (.string xm)).setCell ⟨w.heap.size,k*8+2,none⟩ (.int .i64 xo)).setCell ⟨w.heap.size,k*8+3,none⟩ (.int .i64 xe)).setCell ⟨w.heap.size,k*8+4,none⟩ (.int .i64 xs)).setCell ⟨w.heap.size,k*8+5,none⟩ (.int .i64 xx)).setCell ⟨w.heap.size,k*8+6,none⟩ (.slice ta1 xt.length tc1)).setCell ⟨w.heap.size,k*8+7,none⟩ (.slice ha1 xh.length hc1))):=H_ (((((((((HB.out.setCell (Nat.le_refl _) _).setCell (Nat.le_refl _) _).setCell (Nat.le_refl _) _).setCell (Nat.le_refl _) _).setCell (Nat.le_refl _) _).setCell (Nat.le_refl _) _).setCell (Nat.le_refl _) _).setCell (Nat.le_refl _) _))
   obtain ⟨v0,d0⟩:=HP.out.has (k*8) (by omega)
   have z0:=HP.out.free (k*8) (by omega)
   obtain ⟨v1,d1⟩:=HP.out.has (k*8+1) (by omega)
   have z1:=HP.out.free (k*8+1) (by omega)
   obtain ⟨v2,d2⟩:=HP.out.has (k*8+2) (by omega)
   have z2:=HP.out.free (k*8+2) (by omega)
   obtain ⟨v3,d3⟩:=HP.out.has (k*8+3) (by omega)
   have z3:=HP.out.free (k*8+3) (by omega)
   obtain ⟨v4,d4⟩:=HP.out.has (k*8+4) (by omega)
   have z4:=HP.out.free (k*8+4) (by omega)
   obtain ⟨v5,d5⟩:=HP.out.has (k*8+5) (by omega)
   have z5:=HP.out.free (k*8+5) (by omega)
   obtain ⟨v6,d6⟩:=HP.out.has (k*8+6) (by omega)
   have z6:=HP.out.free (k*8+6) (by omega)
   obtain ⟨v7,d7⟩:=HP.out.has (k*8+7) (by omega)
   have z7:=HP.out.free (k*8+7) (by omega)
   have hsz1:=HP.out.lt
   unfold wcells
   dsimp only
   clear hb hm hn c0 c1 c2 c3 c4 c5 c6 c7 HMORE hsz0
   generalize xt.length=tl at *
   generalize xh.length=hl at *
   go_wp2_with fail
   go_roundw
   case rel=>exact ⟨k+1,by omega,by go_num,HB1,HP1,HM1⟩
   case measure=>simp [intOf];omega
  ·have hlt2:¬(k:Int)<(len:Int):=by omega
   obtain rfl:k=len:=by omega
   go_wp2_with fail
   go_ret
   exact ⟨rfl,HW.out,HP.out,HB.out⟩
set_option maxRecDepth 100000 in
set_option maxHeartbeats 4000000 in
theorem eqWs (ao bo:Option Addr) (cap cap':Nat) (ws:List Wd) (w:World) (hlen:ws.length≤1048576) (hSm:∀i,i<ws.length→(ws.getD i Wd.zero).Small) (hI:Wns ao ws w) (hJ:Wns bo ws w) :
 Calls Tryz.prog 37 #[.slice ao ws.length cap,.slice bo ws.length cap'] w fun e w'=>e=.returned (.bool true)∧Below w.heap.size w w':=by
 have HI:=H_ hI
 have HJ:=H_ hJ
 have HSm:=H_ hSm
 obtain ⟨len,hl⟩:∃len,len=ws.length:=⟨_,rfl⟩
 rw [←hl] at hlen ⊢
 have HL:=H_ hl
 clear hI hJ hl hSm
 go_enter Tryz.func37,Tryz.ntmps37
 go_wp2_with fail
 go_loopw [5] (fun z wr=>∃k:Nat,k≤len∧z=.int .i64 k∧Hid (Below w.heap.size w wr)) (fun z _=>len-(intOf z).toNat)
 case atStart=>exact ⟨0,by omega,rfl,H_ (Below.refl _ _)⟩
 case round =>
  obtain ⟨k,hk,rfl,HW⟩:=hrel
  by_cases hlt:k<len
  ·have hlt2:(k:Int)<(len:Int):=by omega
   have hkl:k<ws.length:=by have:=HL.out;omega
   obtain ⟨b,off,ta,tc,ha,hc,rfl,_,c0,c1,c2,c3,c4,c5,c6,c7,hT,hH⟩:=(HI.out.below HW.out).at k hkl
   obtain ⟨b',off',ta',tc',ha',hc',rfl,_,e0,e1,e2,e3,e4,e5,e6,e7,hT',hH'⟩:=(HJ.out.below HW.out).at k hkl
   have hsm:=HSm.out k hkl
   have HC:=H_ (eqW_any (.agg (wcells (ws.getD k Wd.zero) ta tc ha hc)) (.agg (wcells (ws.getD k Wd.zero) ta' tc' ha' hc')) (ws.getD k Wd.zero) wr.drew hsm.2.2.1 hsm.2.2.2.2 ⟨ta,tc,ha,hc,rfl,hT.below (Below.refl _ _).drew,hH.below (Below.refl _ _).drew⟩ ⟨ta',tc',ha',hc',rfl,hT'.below (Below.refl _ _).drew,hH'.below (Below.refl _ _).drew⟩)
   generalize ws.getD k Wd.zero=X at *
   obtain ⟨xa,xm,xo,xe,xs,xx,xt,xh⟩:=X
   unfold wcells at HC
   dsimp only at c0 c1 c2 c3 c4 c5 c6 c7 e0 e1 e2 e3 e4 e5 e6 e7 HC
   clear hsm hT hH hT' hH'
   generalize xt.length=tl at *
   generalize xh.length=hl at *
   go_wp2_with fail
   go_region_with (go_at_call 86;refine HC.out.mono ?_;rintro e w1 ⟨rfl,hb⟩)
   all_goals (
    have HB1:=H_ (HW.out.drew.trans (hb.mono HW.out.drew.size))
    clear hb c0 c1 c2 c3 c4 c5 c6 c7 e0 e1 e2 e3 e4 e5 e6 e7
    go_wp2_with fail
    go_roundw
    case rel=>exact ⟨k+1,by omega,by go_num,HB1⟩
    case measure=>simp [intOf];omega)
  ·have hlt2:¬(k:Int)<(len:Int):=by omega
   go_wp2_with fail
   go_ret
   exact ⟨rfl,HW.out⟩
end WinR
end Go.Proofs.YtnceeaccbcfopaaGreatDoor
