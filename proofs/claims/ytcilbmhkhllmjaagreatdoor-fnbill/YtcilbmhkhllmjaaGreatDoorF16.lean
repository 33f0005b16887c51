/-
  Lists of windows: read, how many letters, the law's own copies, held against each other. The condition: sizes of at most 1048576.
  Lists put into the order of a text of theirs, each in its place: one rising list of the same elements alone. No condition.
  The draws of a meter: the plain catalog, and a meter of it that may be changed. The condition: the bytes are at most 1048576.
-/
import Derived.Deep.RegionHeld3
import Derived.Test.YtcilbmhkhllmjaaGreatDoorF15
namespace Go.Proofs.YtcilbmhkhllmjaaGreatDoor
open Go.ChangeShapes Go.WideShapes Go.ChangeAt Go.RowKit
set_option linter.unusedVariables false
namespace WinR
open RowG
open EvtR (Pt cell_put cell_far)
open CatR (SzOut)
open Go.Deep
def Wd.zero:Wd:=⟨⟨#[]⟩,⟨#[]⟩,0,0,0,0,[],[]⟩
def WinAt (w:World) (b o:Nat) (x:Wd):Prop:=∃ta tc ha hc,w.cell? ⟨b,o,none⟩=some (.string x.a)∧w.cell? ⟨b,o+1,none⟩=some (.string x.m)∧w.cell? ⟨b,o+2,none⟩=some (.int .i64 x.mo)∧w.cell? ⟨b,o+3,none⟩=some (.int .i64 x.ev)∧w.cell? ⟨b,o+4,none⟩=some (.int .i64 x.su)∧w.cell? ⟨b,o+5,none⟩=some (.int .i64 x.mx)∧w.cell? ⟨b,o+6,none⟩=some (.slice ta x.ts.length tc)∧w.cell? ⟨b,o+7,none⟩=some (.slice ha x.hs.length hc)∧Tgs ta x.ts w∧Hrs ha x.hs w
def Wns (ao:Option Addr) (ws:List Wd) (w:World):Prop:=ws.length=0∨∃b off,ao=some ⟨b,off,none⟩∧b<w.heap.size∧∀j,j<ws.length→WinAt w b (off+j*8) (ws.getD j Wd.zero)
theorem WinAt.below {w w':World} {b o:Nat} {x:Wd} (h:WinAt w b o x) (hl:b<w.heap.size) (hb:Below w.heap.size w w'):WinAt w' b o x:=by
 obtain ⟨ta,tc,ha,hc,h0,h1,h2,h3,h4,h5,h6,h7,hT,hH⟩:=h
 have f:=fun k=>hb.cell (p:=⟨b,k,none⟩) hl
 exact ⟨ta,tc,ha,hc,(f _).trans h0,(f _).trans h1,(f _).trans h2,(f _).trans h3,(f _).trans h4,(f _).trans h5,(f _).trans h6,(f _).trans h7,hT.below hb,hH.below hb⟩
theorem Wns.below {ao:Option Addr} {ws:List Wd} {w w':World} (h:Wns ao ws w) (hb:Below w.heap.size w w'):Wns ao ws w' :=
 h.imp id (fun ⟨b,off,e,hl,hc⟩=>⟨b,off,e,by have:=hb.size;omega,fun j hj=>(hc j hj).below hl hb⟩)
theorem Wns.at {ao:Option Addr} {ws:List Wd} {w:World} (h:Wns ao ws w) (j:Nat) (hj:j<ws.length):∃b off ta tc ha hc,ao=some ⟨b,off,none⟩∧b<w.heap.size∧w.cell? ⟨b,off+j*8,none⟩=some (.string (ws.getD j Wd.zero).a)∧w.cell? ⟨b,off+j*8+1,none⟩=some (.string (ws.getD j Wd.zero).m)∧w.cell? ⟨b,off+j*8+2,none⟩=some (.int .i64 (ws.getD j Wd.zero).mo)∧w.cell? ⟨b,off+j*8+3,none⟩=some (.int .i64 (ws.getD j Wd.zero).ev)∧w.cell? ⟨b,off+j*8+4,none⟩=some (.int .i64 (ws.getD j Wd.zero).su)∧w.cell? ⟨b,off+j*8+5,none⟩=some (.int .i64 (ws.getD j Wd.zero).mx)∧w.cell? ⟨b,off+j*8+6,none⟩=some (.slice ta (ws.getD j Wd.zero).ts.length tc)∧w.cell? ⟨b,off+j*8+7,none⟩=some (.slice ha (ws.getD j Wd.zero).hs.length hc)∧Tgs ta (ws.getD j Wd.zero).ts w∧Hrs ha (ws.getD j Wd.zero).hs w:=by
 rcases h with h0|⟨b,off,e,hl,hc⟩
 ·omega
 ·obtain ⟨ta,tc,ha,hc,h⟩:=hc j hj
  exact ⟨b,off,ta,tc,ha,hc,e,hl,h⟩
def IsWns (w:World) (a:Option Addr) (ws:List Wd):Prop:=ws.length≤maxLen∧Wns a ws w∧∀x∈ws,x.In
section
variable {J:Type} {enc:TypeId × Value→J} {P:Program} {w:World} {base:Nat} {spare:Nat→Bool} {held:Bool}
theorem wns_open {t e te th:TypeId} {f0 f1 f2 f3 f4 f5 f6 f7 g0 g1:Field} {fuel:Nat} {ao:Option Addr} {len cap:Nat} {x:DataW J × List MemPlace} (htt:P.underlying t=some (.slice e)) (hs:P.underlying e=some (.struct #[f0,f1,f2,f3,f4,f5,f6,f7])) (hone:oneCellFields P #[f0,f1,f2,f3,f4,f5,f6,f7]=true) (hC:P.cellsOf e=8)
 (u0:P.underlying f0.type=some .string) (u1:P.underlying f1.type=some .string) (u2:P.underlying f2.type=some (.int .i64)) (u3:P.underlying f3.type=some (.int .i64)) (u4:P.underlying f4.type=some (.int .i64)) (u5:P.underlying f5.type=some (.int .i64)) (u6:P.underlying f6.type=some (.slice te)) (u7:P.underlying f7.type=some (.slice th))
 (ut:P.underlying te=some .string) (hCt:P.cellsOf te=1) (hs2:P.underlying th=some (.struct #[g0,g1])) (hone2:oneCellFields P #[g0,g1]=true) (hC2:P.cellsOf th=2) (v0:P.underlying g0.type=some (.int .i64)) (v1:P.underlying g1.type=some (.int .i64))
 (h:DataW.trod enc P w base spare held fuel t [.slice ao len cap]=some x):∃ws:List Wd,ws.length=len∧IsWns w ao ws:=by
 obtain ⟨h1,f,hq,h2⟩:=CatR.row_open 8 (fun (x:Wd) cs=>∃ta tc ha hc,cs=(wcells x ta tc ha hc).toList∧x.In∧Tgs ta x.ts w∧Hrs ha x.hs w) Wd.zero htt hC (by omega) (fun fuel cs y h=>by
  obtain ⟨x,ta,tc,ha,hc,e,hi,hT,hH⟩:=win_open hs hone hC u0 u1 u2 u3 u4 u5 u6 u7 ut hCt hs2 hone2 hC2 v0 v1 h
  exact ⟨x,⟨ta,tc,ha,hc,e,hi,hT,hH⟩,by rw [e];rfl⟩) h
 refine ⟨(List.range len).map f,by simp,by simpa using h1,?_,fun x hx=>?_⟩
 ·rcases h2 with h2|⟨b,off,rfl,hb,hc⟩
  ·exact .inl (by simpa using h2)
  ·refine .inr ⟨b,off,rfl,hb,fun j hj=>?_⟩
   have hj':j<len:=by simpa using hj
   obtain ⟨cs,⟨ta,tc,ha,hc2,rfl,_,hT,hH⟩,g⟩:=hc j hj'
   rw [CatR.lst_getD f _ len j hj']
   exact ⟨ta,tc,ha,hc2,g 0 (by omega),g 1 (by omega),g 2 (by omega),g 3 (by omega),g 4 (by omega),g 5 (by omega),g 6 (by omega),g 7 (by omega),hT,hH⟩
 ·obtain ⟨i,hi,rfl⟩:=List.mem_map.1 hx
  obtain ⟨cs,ta,tc,ha,hc,_,h3,_,_⟩:=hq i (List.mem_range.1 hi)
  exact h3
end
set_option maxRecDepth 100000 in
set_option maxHeartbeats 4000000 in
theorem szWs (ao:Option Addr) (cap:Nat) (ws:List Wd) (left:Int) (w:World) (hm:ws.length≤maxLen) (h0:0≤left) (h1:left≤1048576) (hI:Wns ao ws w) (hin:∀x∈ws,x.In) :
 Calls Tryz.prog 6 #[.slice ao ws.length cap,.int .i64 left] w fun e w'=>SzOut left (ws.length≤1048576∧∀i,i<ws.length→(ws.getD i Wd.zero).Small) e∧Below w.heap.size w w':=by
 have HI:=hid_intro hI
 have HIn:=hid_intro hin
 have HEND:Hid (∀L:Int,ws.length≤1048576→(∀i,i<ws.length→(ws.getD i Wd.zero).Small)→0≤L→L≤left→SzOut left (ws.length≤1048576∧∀i,i<ws.length→(ws.getD i Wd.zero).Small) (.returned (.int .i64 L))):=hid_intro (fun L a b c d=>⟨L,rfl,.inr ⟨c,d,a,b⟩⟩)
 have HBAD:Hid (SzOut left (ws.length≤1048576∧∀i,i<ws.length→(ws.getD i Wd.zero).Small) (.returned (.int .i64 (-1)))):=hid_intro ⟨-1,rfl,.inl rfl⟩
 generalize SzOut left (ws.length≤1048576∧∀i,i<ws.length→(ws.getD i Wd.zero).Small)=PO at *
 obtain ⟨len,hl⟩:∃len,len=ws.length:=⟨_,rfl⟩
 rw [←hl] at hm HEND ⊢
 have HL:=hid_intro hl
 unfold maxLen at hm
 clear hI hin hl
 by_cases hbig:left-(len:Int)<0
 ·go_enter Tryz.func6,Tryz.ntmps6
  go_wp2_with fail
  go_ret
  exact ⟨HBAD.out,Below.refl _ _⟩
 go_enter Tryz.func6,Tryz.ntmps6
 go_wp2_with fail
 go_loopw [5,1] (fun x y wr=>∃(j:Nat) (L:Int),j≤len∧x=.int .i64 j∧y=.int .i64 L∧0≤L∧L≤left∧Hid (∀i,i<j→(ws.getD i Wd.zero).Small)∧Hid (Below w.heap.size w wr)) (fun x _ _=>len-(intOf x).toNat)
 case atStart=>exact ⟨0,left-(len:Int),by omega,rfl,rfl,by omega,by omega,hid_intro (fun i hi=>absurd hi (by omega)),hid_intro (Below.refl _ _)⟩
 case round =>
  obtain ⟨j,L,hj,rfl,rfl,l0,l1,HD,HB⟩:=hrel
  by_cases hlt:j<len
  ·have hlt2:(j:Int)<(len:Int):=by omega
   have hkl:j<ws.length:=by have:=HL.out;omega
   obtain ⟨b,off,ta,tc,ha,hc,rfl,hbl,c0,c1,c2,c3,c4,c5,c6,c7,hT,hH⟩:=(HI.out.below HB.out).at j hkl
   have HC:=hid_intro (szW_any (ws.getD j Wd.zero) ta tc ha hc L wr l0 (by omega) (HIn.out _ (getD_mem (z:=Wd.zero) ws j hkl)) hT)
   have HSM:Hid (¬wszR (ws.getD j Wd.zero) L<0→0≤wszR (ws.getD j Wd.zero) L∧wszR (ws.getD j Wd.zero) L≤L∧∀i,i<j+1→(ws.getD i Wd.zero).Small):=hid_intro (fun h=>by
    obtain ⟨h2,h3,h4⟩:=wsz_small (by omega) h
    refine ⟨h3,?_,fun i hi=>?_⟩
    ·have n0:=tsz_nn (ws.getD j Wd.zero).ts
     unfold wszR at h ⊢
     split at h<;>split<;>omega
    ·by_cases e:i=j
     ·subst e;exact h2
     ·exact HD.out i (by omega))
   generalize hX:ws.getD j Wd.zero=X at *
   clear hX
   obtain ⟨xa,xm,xo,xe,xs,xx,xt,xh⟩:=X
   unfold wcells at HC
   dsimp only at c0 c1 c2 c3 c4 c5 c6 c7 HC
   generalize wszR ⟨xa,xm,xo,xe,xs,xx,xt,xh⟩ L=L2 at *
   generalize xt.length=tl at *
   generalize xh.length=hl at *
   clear hT hH HD
   by_cases hs:L2<0
   ·go_wp2_with fail
    refine HC.out.mono ?_
    rintro e w1 ⟨rfl,hb⟩
    have HB1:=hid_intro (HB.out.trans (hb.mono HB.out.size))
    clear hb c0 c1 c2 c3 c4 c5 c6 c7
    go_wp2_with fail
    go_ret
    exact ⟨HBAD.out,HB1.out⟩
   ·obtain ⟨s0,s1,s2⟩:=HSM.out hs
    have HS2:=hid_intro s2
    clear s2
    go_wp2_with fail
    refine HC.out.mono ?_
    rintro e w1 ⟨rfl,hb⟩
    have HB1:=hid_intro (HB.out.trans (hb.mono HB.out.size))
    clear hb c0 c1 c2 c3 c4 c5 c6 c7
    go_wp2_with fail
    go_roundw
    case rel=>exact ⟨j+1,L2,by omega,by go_num,rfl,s0,by omega,HS2,HB1⟩
    case measure=>simp [intOf];omega
  ·have hlt2:¬(j:Int)<(len:Int):=by omega
   obtain rfl:j=len:=by omega
   go_wp2_with fail
   go_ret
   exact ⟨HEND.out L (by omega) HD.out l0 l1,HB.out⟩
theorem infoWd:(Tryz.prog.info? 74).map (fun i=>(i.zero,i.size,i.bytes))=some (some (.agg #[.string ⟨#[]⟩,.string ⟨#[]⟩,.int .i64 0,.int .i64 0,.int .i64 0,.int .i64 0,.slice none 0 0,.slice none 0 0]),8,112):=by kernel_rfl
def Inn (g t:Nat) (a:Option Addr) (n m:Nat) (W:World):Prop:=n=0∨∃g',a=some ⟨g',0,none⟩∧g<g'∧g'<t∧Pt g' m W
theorem ptA {p q n o:Nat} {W:World} {v:Value} (h:Pt p n W):Pt p n (W.setCell ⟨q,o,none⟩ v):=by
 by_cases e:p=q
 ·subst e;exact h.set _ _
 ·have eb:=(grown_set W q o v).block p h.lt (by simp;exact e)
  exact ⟨by have:=h.lt;simpa using this,fun x hx=>by obtain ⟨u,hu⟩:=h.has x hx;exact ⟨u,(World.cell?_of_block (a:=⟨p,x,none⟩) eb).trans hu⟩,fun x hx=>(World.frozen?_of_block (a:=⟨p,x,none⟩) eb).trans (h.free x hx)⟩
theorem Inn.ne {g t:Nat} {a:Option Addr} {n m:Nat} {W:World} (h:Inn g t a n m W):n=0∨∀b off,a=some ⟨b,off,none⟩→b≠g:=h.imp id (fun ⟨g',e1,e2,_⟩ b off e=>by rw [e1] at e;simp at e;omega)
theorem Inn.below {g t t':Nat} {a:Option Addr} {n m:Nat} {W W':World} (h:Inn g t a n m W) (hb:Below W.heap.size W W') (ht:t≤t'):Inn g t' a n m W':=h.imp id (fun ⟨g',e1,e2,e3,e4⟩=>⟨g',e1,e2,by omega,e4.below hb⟩)
theorem Inn.put {g t q o:Nat} {a:Option Addr} {n m:Nat} {W:World} {v:Value} (h:Inn g t a n m W):Inn g t a n m (W.setCell ⟨q,o,none⟩ v):=h.imp id (fun ⟨g',e1,e2,e3,e4⟩=>⟨g',e1,e2,e3,ptA e4⟩)
theorem Inn.top {g t t':Nat} {a:Option Addr} {n m:Nat} {W:World} (h:Inn g t a n m W) (ht:t≤t'):Inn g t' a n m W:=h.imp id (fun ⟨g',e1,e2,e3,e4⟩=>⟨g',e1,e2,by omega,e4⟩)
def WW (g k:Nat) (ws:List Wd) (W:World):Prop:=∀j,j<k→∃ta tc ha hc,W.cell? ⟨g,j*8,none⟩=some (.string (ws.getD j Wd.zero).a)∧W.cell? ⟨g,j*8+1,none⟩=some (.string (ws.getD j Wd.zero).m)∧W.cell? ⟨g,j*8+2,none⟩=some (.int .i64 (ws.getD j Wd.zero).mo)∧W.cell? ⟨g,j*8+3,none⟩=some (.int .i64 (ws.getD j Wd.zero).ev)∧W.cell? ⟨g,j*8+4,none⟩=some (.int .i64 (ws.getD j Wd.zero).su)∧W.cell? ⟨g,j*8+5,none⟩=some (.int .i64 (ws.getD j Wd.zero).mx)∧W.cell? ⟨g,j*8+6,none⟩=some (.slice ta (ws.getD j Wd.zero).ts.length tc)∧W.cell? ⟨g,j*8+7,none⟩=some (.slice ha (ws.getD j Wd.zero).hs.length hc)∧Tgs ta (ws.getD j Wd.zero).ts W∧Hrs ha (ws.getD j Wd.zero).hs W∧Inn g W.heap.size ta (ws.getD j Wd.zero).ts.length ((ws.getD j Wd.zero).ts.length*1) W∧Inn g W.heap.size ha (ws.getD j Wd.zero).hs.length ((ws.getD j Wd.zero).hs.length*2) W
theorem WW.below {g k:Nat} {ws:List Wd} {W W':World} (h:WW g k ws W) (hg:g<W.heap.size) (hb:Below W.heap.size W W'):WW g k ws W':=by
 intro j hj
 obtain ⟨ta,tc,ha,hc,c0,c1,c2,c3,c4,c5,c6,c7,hT,hH,n1,n2⟩:=h j hj
 have f:=fun x=>hb.cell (p:=⟨g,x,none⟩) hg
 exact ⟨ta,tc,ha,hc,(f _).trans c0,(f _).trans c1,(f _).trans c2,(f _).trans c3,(f _).trans c4,(f _).trans c5,(f _).trans c6,(f _).trans c7,hT.below hb,hH.below hb,n1.below hb hb.size,n2.below hb hb.size⟩
theorem WW.put {g k o:Nat} {ws:List Wd} {W:World} (h:WW g k ws W) (ho:k*8≤o) (v:Value):WW g k ws (W.setCell ⟨g,o,none⟩ v):=by
 intro j hj
 obtain ⟨ta,tc,ha,hc,c0,c1,c2,c3,c4,c5,c6,c7,hT,hH,n1,n2⟩:=h j hj
 exact ⟨ta,tc,ha,hc,(cell_far _ _ (by omega) v).trans c0,(cell_far _ _ (by omega) v).trans c1,(cell_far _ _ (by omega) v).trans c2,(cell_far _ _ (by omega) v).trans c3,(cell_far _ _ (by omega) v).trans c4,(cell_far _ _ (by omega) v).trans c5,(cell_far _ _ (by omega) v).trans c6,(cell_far _ _ (by omega) v).trans c7,DocR.Rws.put hT g o v n1.ne,DocR.Rws.put hH g o v n2.ne,n1.put.top (by simp),n2.put.top (by simp)⟩
theorem WW.more {g k n:Nat} {ws:List Wd} {W:World} (h:WW g k ws W) (hp:Pt g n W) (hk:k*8+7<n) (ta ha:Option Addr) (tc hc:Nat) (hT:Tgs ta (ws.getD k Wd.zero).ts W) (hH:Hrs ha (ws.getD k Wd.zero).hs W) (n1:Inn g W.heap.size ta (ws.getD k Wd.zero).ts.length ((ws.getD k Wd.zero).ts.length*1) W) (n2:Inn g W.heap.size ha (ws.getD k Wd.zero).hs.length ((ws.getD k Wd.zero).hs.length*2) W) :
 WW g (k+1) ws ((((((((W.setCell ⟨g,k*8,none⟩ (.string (ws.getD k Wd.zero).a)).setCell ⟨g,k*8+1,none⟩ (.string (ws.getD k Wd.zero).m)).setCell ⟨g,k*8+2,none⟩ (.int .i64 (ws.getD k Wd.zero).mo)).setCell ⟨g,k*8+3,none⟩ (.int .i64 (ws.getD k Wd.zero).ev)).setCell ⟨g,k*8+4,none⟩ (.int .i64 (ws.getD k Wd.zero).su)).setCell ⟨g,k*8+5,none⟩ (.int .i64 (ws.getD k Wd.zero).mx)).setCell ⟨g,k*8+6,none⟩ (.slice ta (ws.getD k Wd.zero).ts.length tc)).setCell ⟨g,k*8+7,none⟩ (.slice ha (ws.getD k Wd.zero).hs.length hc)):=by
 intro j hj
 by_cases e:j=k
 ·subst e
  have p0:=hp
  have p1:=p0.set (j*8) (.string (ws.getD j Wd.zero).a)
  have p2:=p1.set (j*8+1) (.string (ws.getD j Wd.zero).m)
  have p3:=p2.set (j*8+2) (.int .i64 (ws.getD j Wd.zero).mo)
  have p4:=p3.set (j*8+3) (.int .i64 (ws.getD j Wd.zero).ev)
  have p5:=p4.set (j*8+4) (.int .i64 (ws.getD j Wd.zero).su)
  have p6:=p5.set (j*8+5) (.int .i64 (ws.getD j Wd.zero).mx)
  have p7:=p6.set (j*8+6) (.slice ta (ws.getD j Wd.zero).ts.length tc)
  refine ⟨ta,tc,ha,hc,?_,?_,?_,?_,?_,?_,?_,cell_put p7 _ hk _,DocR.Rws.put (DocR.Rws.put (DocR.Rws.put (DocR.Rws.put (DocR.Rws.put (DocR.Rws.put (DocR.Rws.put (DocR.Rws.put (hT) g _ _ n1.ne) g _ _ n1.ne) g _ _ n1.ne) g _ _ n1.ne) g _ _ n1.ne) g _ _ n1.ne) g _ _ n1.ne) g _ _ n1.ne,DocR.Rws.put (DocR.Rws.put (DocR.Rws.put (DocR.Rws.put (DocR.Rws.put (DocR.Rws.put (DocR.Rws.put (DocR.Rws.put (hH) g _ _ n2.ne) g _ _ n2.ne) g _ _ n2.ne) g _ _ n2.ne) g _ _ n2.ne) g _ _ n2.ne) g _ _ n2.ne) g _ _ n2.ne,?_,?_⟩
  ·rw [cell_far _ _ (by omega),cell_far _ _ (by omega),cell_far _ _ (by omega),cell_far _ _ (by omega),cell_far _ _ (by omega),cell_far _ _ (by omega),cell_far _ _ (by omega),cell_put p0 _ (by omega)]
  ·rw [cell_far _ _ (by omega),cell_far _ _ (by omega),cell_far _ _ (by omega),cell_far _ _ (by omega),cell_far _ _ (by omega),cell_far _ _ (by omega),cell_put p1 _ (by omega)]
  ·rw [cell_far _ _ (by omega),cell_far _ _ (by omega),cell_far _ _ (by omega),cell_far _ _ (by omega),cell_far _ _ (by omega),cell_put p2 _ (by omega)]
  ·rw [cell_far _ _ (by omega),cell_far _ _ (by omega),cell_far _ _ (by omega),cell_far _ _ (by omega),cell_put p3 _ (by omega)]
  ·rw [cell_far _ _ (by omega),cell_far _ _ (by omega),cell_far _ _ (by omega),cell_put p4 _ (by omega)]
  ·rw [cell_far _ _ (by omega),cell_far _ _ (by omega),cell_put p5 _ (by omega)]
  ·rw [cell_far _ _ (by omega),cell_put p6 _ (by omega)]
  ·exact Inn.top (n1.put.put.put.put.put.put.put.put) (by simp)
  ·exact Inn.top (n2.put.put.put.put.put.put.put.put) (by simp)
 ·exact (((((((((h.put (by omega) _).put (by omega) _).put (by omega) _).put (by omega) _).put (by omega) _).put (by omega) _).put (by omega) _).put (by omega) _)) j (by omega)
def WX (g t k:Nat) (ws:List Wd) (W:World):Prop:=∀j,j<k→∃ta tc ha hc,W.cell? ⟨g,j*8+6,none⟩=some (.slice ta (ws.getD j Wd.zero).ts.length tc)∧W.cell? ⟨g,j*8+7,none⟩=some (.slice ha (ws.getD j Wd.zero).hs.length hc)∧Inn g t ta (ws.getD j Wd.zero).ts.length ((ws.getD j Wd.zero).ts.length*1) W∧Inn g t ha (ws.getD j Wd.zero).hs.length ((ws.getD j Wd.zero).hs.length*2) W
theorem WW.wx {g k:Nat} {ws:List Wd} {W:World} (h:WW g k ws W):WX g W.heap.size k ws W:=fun j hj=>by
 obtain ⟨ta,tc,ha,hc,_,_,_,_,_,_,c6,c7,_,_,n1,n2⟩:=h j hj
 exact ⟨ta,tc,ha,hc,c6,c7,n1,n2⟩
theorem WW.wns {g:Nat} {ws:List Wd} {W:World} (h:WW g ws.length ws W) (hg:g<W.heap.size):Wns (some ⟨g,0,none⟩) ws W:=.inr ⟨g,0,rfl,hg,fun j hj=>by
 obtain ⟨ta,tc,ha,hc,c0,c1,c2,c3,c4,c5,c6,c7,hT,hH,_⟩:=h j hj
 exact ⟨ta,tc,ha,hc,by rw [Nat.zero_add];exact c0,by rw [Nat.zero_add];exact c1,by rw [Nat.zero_add];exact c2,by rw [Nat.zero_add];exact c3,by rw [Nat.zero_add];exact c4,by rw [Nat.zero_add];exact c5,by rw [Nat.zero_add];exact c6,by rw [Nat.zero_add];exact c7,hT,hH⟩⟩
set_option maxRecDepth 100000 in
set_option maxHeartbeats 8000000 in
theorem toWs (ao:Option Addr) (cap:Nat) (ws:List Wd) (w:World) (hlen:ws.length≤1048576) (hSm:∀i,i<ws.length→(ws.getD i Wd.zero).Small) (hI:Wns ao ws w) :
 Calls Tryz.prog 9 #[.slice ao ws.length cap] w fun e w'=>e=.returned (.slice (some ⟨w.heap.size,0,none⟩) ws.length ws.length)∧WW w.heap.size ws.length ws w'∧Pt w.heap.size (ws.length*8) w'∧Below w.heap.size w w':=by
 obtain ⟨i0,hi,hz0,hz1,hz2⟩:=info_parts infoWd
 have HI:=hid_intro hI
 have HSm:=hid_intro hSm
 obtain ⟨len,hl⟩:∃len,len=ws.length:=⟨_,rfl⟩
 rw [←hl] at hlen ⊢
 have HL:=hid_intro hl
 clear hI hl hSm
 go_enter Tryz.func9,Tryz.ntmps9
 go_wp2_with (at_make;refine wpList_make_full _ rfl _ _ 38 rfl w.heap.size 74 i0 (.agg #[.string ⟨#[]⟩,.string ⟨#[]⟩,.int .i64 0,.int .i64 0,.int .i64 0,.int .i64 0,.slice none 0 0,.slice none 0 0]) 8 Tryz.underlying38 hi hz0 hz1 .i64 .i64 _ _ len rfl rfl rfl rfl ?b2 ?b3 ?b4 ?_)
 case b2=>rw [hz2];omega
 case b3=>unfold maxLen;omega
 case b4=>exact Nat.le_refl _
 intro wm hown hgrow
 have HB0:Hid (Below w.heap.size w wm):=hid_intro ((Below.refl _ _).grown hgrow (Nat.le_refl _) (fun k e=>by cases e))
 have HP0:=hid_intro (row_full hown)
 clear hown hgrow hi hz0 hz1 hz2
 go_wp2_with fail
 go_loopw [4] (fun z wr=>∃k:Nat,k≤len∧z=.int .i64 k∧Hid (Below w.heap.size w wr)∧Hid (Pt w.heap.size (len*8) wr)∧Hid (WW w.heap.size k ws wr)) (fun z _=>len-(intOf z).toNat)
 case atStart=>exact ⟨0,by omega,rfl,HB0,HP0,hid_intro (fun j hj=>absurd hj (by omega))⟩
 case round =>
  obtain ⟨k,hk,rfl,HB,HP,HW⟩:=hrel
  by_cases hlt:k<len
  ·have hlt2:(k:Int)<(len:Int):=by omega
   have hkl:k<ws.length:=by have:=HL.out;omega
   obtain ⟨b,off,ta,tc,ha,hc,rfl,hbl,c0,c1,c2,c3,c4,c5,c6,c7,hT,hH⟩:=(HI.out.below HB.out).at k hkl
   have hsm:=HSm.out k hkl
   have HC:=hid_intro (toW_any (.agg (wcells (ws.getD k Wd.zero) ta tc ha hc)) (ws.getD k Wd.zero) wr hsm.2.2.1 hsm.2.2.2.2 ⟨ta,tc,ha,hc,rfl,hT,hH⟩)
   have HMORE:=hid_intro (fun (W:World) (h:WW w.heap.size k ws W) (hp:Pt w.heap.size (len*8) W) ta ha tc hc hT hH n1 n2=>h.more hp (by omega) ta ha tc hc hT hH n1 n2)
   obtain ⟨X,hX⟩:∃X,X=ws.getD k Wd.zero:=⟨_,rfl⟩
   rw [←hX] at c0 c1 c2 c3 c4 c5 c6 c7 HC HMORE
   clear hX hsm hT hH
   obtain ⟨xa,xm,xo,xe,xs,xx,xt,xh⟩:=X
   unfold wcells at HC
   dsimp only at c0 c1 c2 c3 c4 c5 c6 c7 HC HMORE
   have hsz0:=HP.out.lt
   go_wp2_with fail
   refine HC.out.mono ?_
   rintro e w1 ⟨v,rfl,⟨ta1,tc1,ha1,hc1,rfl,hm,hn,_⟩,hb⟩
   replace HW:=hid_intro (HW.out.below hsz0 hb)
   replace HP:=hid_intro (HP.out.below hb)
   replace HB:=hid_intro (HB.out.trans (hb.mono HB.out.size))
   have HM1:=hid_intro (HMORE.out w1 HW.out HP.out ta1 ha1 tc1 hc1 hm.rws hn.rws (hm.own.imp id (fun ⟨g',e1,e2,e3⟩=>⟨g',e1,by omega,e3.lt,e3⟩)) (hn.own.imp id (fun ⟨g',e1,e2,e3⟩=>⟨g',e1,by omega,e3.lt,e3⟩)))
   have HP1:=hid_intro (((((((((HP.out.set (k*8) (.string xa)).set (k*8+1) (.string xm)).set (k*8+2) (.int .i64 xo)).set (k*8+3) (.int .i64 xe)).set (k*8+4) (.int .i64 xs)).set (k*8+5) (.int .i64 xx)).set (k*8+6) (.slice ta1 xt.length tc1)).set (k*8+7) (.slice ha1 xh.length hc1)))
   have HB1:Hid (Below w.heap.size w ((((((((w1.setCell ⟨w.heap.size,k*8,none⟩ (.string xa)).setCell ⟨w.heap.size,k*8+1,none⟩ (.string xm)).setCell ⟨w.heap.size,k*8+2,none⟩ (.int .i64 xo)).setCell ⟨w.heap.size,k*8+3,none⟩ (.int .i64 xe)).setCell ⟨w.heap.size,k*8+4,none⟩ (.int .i64 xs)).setCell ⟨w.heap.size,k*8+5,none⟩ (.int .i64 xx)).setCell ⟨w.heap.size,k*8+6,none⟩ (.slice ta1 xt.length tc1)).setCell ⟨w.heap.size,k*8+7,none⟩ (.slice ha1 xh.length hc1))):=hid_intro (((((((((HB.out.setCell (Nat.le_refl _) _).setCell (Nat.le_refl _) _).setCell (Nat.le_refl _) _).setCell (Nat.le_refl _) _).setCell (Nat.le_refl _) _).setCell (Nat.le_refl _) _).setCell (Nat.le_refl _) _).setCell (Nat.le_refl _) _))
   obtain ⟨v0,d0⟩:=HP.out.has (k*8) (by omega)
   have z0:=HP.out.free (k*8) (by omega)
   obtain ⟨v1,d1⟩:=HP.out.has (k*8+1) (by omega)
   have z1:=HP.out.free (k*8+1) (by omega)
   obtain ⟨v2,d2⟩:=HP.out.has (k*8+2) (by omega)
   have z2:=HP.out.free (k*8+2) (by omega)
   obtain ⟨v3,d3⟩:=HP.out.has (k*8+3) (by omega)
   have z3:=HP.out.free (k*8+3) (by omega)
   obtain ⟨v4,d4⟩:=HP.out.has (k*8+4) (by omega)
   have z4:=HP.out.free (k*8+4) (by omega)
   obtain ⟨v5,d5⟩:=HP.out.has (k*8+5) (by omega)
   have z5:=HP.out.free (k*8+5) (by omega)
   obtain ⟨v6,d6⟩:=HP.out.has (k*8+6) (by omega)
   have z6:=HP.out.free (k*8+6) (by omega)
   obtain ⟨v7,d7⟩:=HP.out.has (k*8+7) (by omega)
   have z7:=HP.out.free (k*8+7) (by omega)
   have hsz1:=HP.out.lt
   unfold wcells
   dsimp only
   clear hb hm hn c0 c1 c2 c3 c4 c5 c6 c7 HMORE hsz0
   generalize xt.length=tl at *
   generalize xh.length=hl at *
   go_wp2_with fail
   go_roundw
   case rel=>exact ⟨k+1,by omega,by go_num,HB1,HP1,HM1⟩
   case measure=>simp [intOf];omega
  ·have hlt2:¬(k:Int)<(len:Int):=by omega
   obtain rfl:k=len:=by omega
   go_wp2_with fail
   go_ret
   exact ⟨rfl,HW.out,HP.out,HB.out⟩
set_option maxRecDepth 100000 in
set_option maxHeartbeats 4000000 in
theorem eqWs (ao bo:Option Addr) (cap cap':Nat) (ws:List Wd) (w:World) (hlen:ws.length≤1048576) (hSm:∀i,i<ws.length→(ws.getD i Wd.zero).Small) (hI:Wns ao ws w) (hJ:Wns bo ws w) :
 Calls Tryz.prog 13 #[.slice ao ws.length cap,.slice bo ws.length cap'] w fun e w'=>e=.returned (.bool true)∧Below w.heap.size w w':=by
 have HI:=hid_intro hI
 have HJ:=hid_intro hJ
 have HSm:=hid_intro hSm
 obtain ⟨len,hl⟩:∃len,len=ws.length:=⟨_,rfl⟩
 rw [←hl] at hlen ⊢
 have HL:=hid_intro hl
 clear hI hJ hl hSm
 go_enter Tryz.func13,Tryz.ntmps13
 go_wp2_with fail
 go_loopw [5] (fun z wr=>∃k:Nat,k≤len∧z=.int .i64 k∧Hid (Below w.heap.size w wr)) (fun z _=>len-(intOf z).toNat)
 case atStart=>exact ⟨0,by omega,rfl,hid_intro (Below.refl _ _)⟩
 case round =>
  obtain ⟨k,hk,rfl,HW⟩:=hrel
  by_cases hlt:k<len
  ·have hlt2:(k:Int)<(len:Int):=by omega
   have hkl:k<ws.length:=by have:=HL.out;omega
   obtain ⟨b,off,ta,tc,ha,hc,rfl,_,c0,c1,c2,c3,c4,c5,c6,c7,hT,hH⟩:=(HI.out.below HW.out).at k hkl
   obtain ⟨b',off',ta',tc',ha',hc',rfl,_,e0,e1,e2,e3,e4,e5,e6,e7,hT',hH'⟩:=(HJ.out.below HW.out).at k hkl
   have hsm:=HSm.out k hkl
   have HC:=hid_intro (eqW_any (.agg (wcells (ws.getD k Wd.zero) ta tc ha hc)) (.agg (wcells (ws.getD k Wd.zero) ta' tc' ha' hc')) (ws.getD k Wd.zero) wr.drew hsm.2.2.1 hsm.2.2.2.2 ⟨ta,tc,ha,hc,rfl,hT.below (Below.refl _ _).drew,hH.below (Below.refl _ _).drew⟩ ⟨ta',tc',ha',hc',rfl,hT'.below (Below.refl _ _).drew,hH'.below (Below.refl _ _).drew⟩)
   generalize ws.getD k Wd.zero=X at *
   obtain ⟨xa,xm,xo,xe,xs,xx,xt,xh⟩:=X
   unfold wcells at HC
   dsimp only at c0 c1 c2 c3 c4 c5 c6 c7 e0 e1 e2 e3 e4 e5 e6 e7 HC
   clear hsm hT hH hT' hH'
   generalize xt.length=tl at *
   generalize xh.length=hl at *
   go_wp2_with fail
   go_region_with (go_at_call 51;refine HC.out.mono ?_;rintro e w1 ⟨rfl,hb⟩)
   all_goals (
    have HB1:=hid_intro (HW.out.drew.trans (hb.mono HW.out.drew.size))
    clear hb c0 c1 c2 c3 c4 c5 c6 c7 e0 e1 e2 e3 e4 e5 e6 e7
    go_wp2_with fail
    go_roundw
    case rel=>exact ⟨k+1,by omega,by go_num,HB1⟩
    case measure=>simp [intOf];omega)
  ·have hlt2:¬(k:Int)<(len:Int):=by omega
   go_wp2_with fail
   go_ret
   exact ⟨rfl,HW.out⟩
end WinR
end Go.Proofs.YtcilbmhkhllmjaaGreatDoor
namespace Go.Proofs.YtcilbmhkhllmjaaGreatDoor
open Go.RowKit
set_option linter.unusedVariables false
namespace BilR
open LtR
section
variable {α β:Type} {f:α→ByteArray}
def insB (f:α→ByteArray) (x:α):List α→List α
 | []=>[x]
 | y::l=>if lt (f y) (f x)=true then y::insB f x l else x::y::l
def srt (f:α→ByteArray) (l:List α):List α:=l.foldl (fun acc x=>insB f x acc) []
def Ris (f:α→ByteArray) (l:List α):Prop:=l.Pairwise (fun a b=>lt (f a) (f b)=true)
theorem insB_perm (x:α):∀l:List α,(insB f x l).Perm (x::l)
 | []=>List.Perm.refl _
 | y::l=>by
  unfold insB
  split
  ·exact ((insB_perm x l).cons y).trans (List.Perm.swap x y l)
  ·exact List.Perm.refl _
theorem insB_mem {x z:α} {l:List α} (h:z∈insB f x l):z=x∨z∈l:=by
 have:=(insB_perm x l).mem_iff.1 h
 simpa using this
theorem insB_ris {x:α}:∀{l:List α},Ris f l→(∀y∈l,f y≠f x)→Ris f (insB f x l)
 | [],_,_=>List.pairwise_singleton _ _
 | y::l,h,hn=>by
  obtain ⟨h1,h2⟩:=List.pairwise_cons.1 h
  unfold insB
  split
  ·rename_i q
   refine List.pairwise_cons.2 ⟨fun z hz=>?_,insB_ris h2 (fun z hz=>hn z (List.mem_cons_of_mem _ hz))⟩
   rcases insB_mem hz with rfl|hz
   ·exact q
   ·exact h1 z hz
  ·rename_i q
   have q1:lt (f x) (f y)=true:=by
    cases q2:lt (f x) (f y)
    ·exact absurd (lt_total (by simpa using q) q2) (hn y (List.mem_cons_self ..))
    ·rfl
   refine List.pairwise_cons.2 ⟨fun z hz=>?_,h⟩
   rcases List.mem_cons.1 hz with rfl|hz
   ·exact q1
   ·exact lt_trans q1 (h1 z hz)
theorem insB_map (g:β→α) (x:β):∀l:List β,(insB (fun b=>f (g b)) x l).map g=insB f (g x) (l.map g)
 | []=>rfl
 | y::l=>by
  simp only [insB,List.map_cons]
  split
  ·rw [List.map_cons,insB_map g x l]
  ·rfl
theorem srt_snoc (l:List α) (x:α):srt f (l ++ [x])=insB f x (srt f l):=by simp [srt,List.foldl_append]
theorem rev_ind {α:Type} {P:List α→Prop} (h0:P []) (h1:∀l x,P l→P (l ++ [x])) (l:List α):P l:=by
 have:∀l:List α,P l.reverse:=fun l=>by
  induction l with
  | nil=>exact h0
  | cons x l ih=>rw [List.reverse_cons];exact h1 _ _ ih
 have q:=this l.reverse
 rwa [List.reverse_reverse] at q
theorem srt_perm (l:List α):(srt f l).Perm l:=by
 refine rev_ind (P:=fun l=>(srt f l).Perm l) (List.Perm.refl _) (fun l x ih=>?_) l
 rw [srt_snoc]
 exact ((insB_perm x _).trans (ih.cons x)).trans (List.perm_append_singleton x l).symm
theorem srt_map (g:β→α) (l:List β):(srt (fun b=>f (g b)) l).map g=srt f (l.map g):=by
 refine rev_ind (P:=fun l=>(srt (fun b=>f (g b)) l).map g=srt f (l.map g)) rfl (fun l x ih=>?_) l
 rw [srt_snoc,insB_map,ih,List.map_append,List.map_singleton,srt_snoc]
theorem srt_ris (l:List α) (h:(l.map f).Nodup):Ris f (srt f l):=by
 revert h
 refine rev_ind (P:=fun l=>(l.map f).Nodup→Ris f (srt f l)) (fun _=>List.Pairwise.nil) (fun l x ih h=>?_) l
 rw [List.map_append,List.map_singleton] at h
 obtain ⟨h1,_,h3⟩:=List.nodup_append.1 h
 rw [srt_snoc]
 refine insB_ris (ih h1) (fun y hy e=>?_)
 exact h3 (f y) (List.mem_map_of_mem ((srt_perm l).mem_iff.1 hy)) (f x) (List.mem_singleton.2 rfl) e
theorem ris_nodup {l:List α} (h:Ris f l):(l.map f).Nodup:=by
 unfold List.Nodup
 rw [List.pairwise_map]
 exact h.imp (fun {a b} q e=>by rw [e,lt_irrefl] at q;cases q)
theorem ris_eq:∀{a b:List α},Ris f a→Ris f b→a.Perm b→a=b
 | [],b,_,_,h=>(List.Perm.nil_eq h)
 | x::a,[],_,_,h=>by have:=h.length_eq;simp at this
 | x::a,y::b,ha,hb,h=>by
  obtain ⟨a1,a2⟩:=List.pairwise_cons.1 ha
  obtain ⟨b1,b2⟩:=List.pairwise_cons.1 hb
  have hx:x∈y::b:=h.mem_iff.1 (List.mem_cons_self ..)
  have hy:y∈x::a:=h.mem_iff.2 (List.mem_cons_self ..)
  have e:x=y:=by
   rcases List.mem_cons.1 hx with q|q
   ·exact q
   ·rcases List.mem_cons.1 hy with p|p
    ·exact p.symm
    ·have q1:=b1 x q
     rw [lt_asymm (a1 y p)] at q1
     cases q1
  subst e
  rw [ris_eq a2 b2 (List.Perm.cons_inv h)]
theorem srt_eq {l d:List α} (hd:Ris f d) (hp:d.Perm l):d=srt f l :=
 ris_eq hd (srt_ris l (by
  have:=(hp.map f).nodup_iff.1 (ris_nodup hd)
  exact this)) (hp.trans (srt_perm l).symm)
end
end BilR
end Go.Proofs.YtcilbmhkhllmjaaGreatDoor
namespace Go.Proofs.YtcilbmhkhllmjaaGreatDoor
open Go.ChangeShapes Go.WideShapes Go.ChangeAt Go.RowKit
set_option linter.unusedVariables false
namespace DrawR
open CatR (Ti Me Cr Ca Tis Mes Crs TiAt MeAt CrAt IsMe IsCa)
open EvtR (Pt cell_put cell_far)
def plainM:List Me:=[⟨⟨#[99,112,117]⟩,1,false,10,0,[⟨100,50⟩,⟨1000000000000,20⟩]⟩,⟨⟨#[100,105,115,107]⟩,2,true,0,500,[⟨50,9⟩,⟨200,7⟩,⟨1000000000000,5⟩]⟩,⟨⟨#[110,101,116]⟩,4,false,0,0,[⟨1000000000000,3⟩]⟩,⟨⟨#[117,115,101,114,115]⟩,3,false,0,0,[⟨1000000000000,1000⟩]⟩]
def plainC:Ca:=⟨plainM,[⟨⟨#[97,110,110]⟩,3000⟩]⟩
def plainW (w:World):World:=(((((((w.alloc (.cells #[.slice (some ⟨w.heap.size+1+1+1+1+1,0,none⟩) 4 4,.slice (some ⟨w.heap.size+1+1+1+1+1+1,0,none⟩) 1 1] 36)).alloc (.cells #[.int .i64 100,.int .i64 50,.int .i64 1000000000000,.int .i64 20] 162)).alloc (.cells #[.int .i64 50,.int .i64 9,.int .i64 200,.int .i64 7,.int .i64 1000000000000,.int .i64 5] 162)).alloc (.cells #[.int .i64 1000000000000,.int .i64 3] 162)).alloc (.cells #[.int .i64 1000000000000,.int .i64 1000] 162)).alloc (.cells #[.string ⟨#[99,112,117]⟩,.int .i64 1,.bool false,.int .i64 10,.int .i64 0,.slice (some ⟨w.heap.size+1,0,none⟩) 2 2,.string ⟨#[100,105,115,107]⟩,.int .i64 2,.bool true,.int .i64 0,.int .i64 500,.slice (some ⟨w.heap.size+1+1,0,none⟩) 3 3,.string ⟨#[110,101,116]⟩,.int .i64 4,.bool false,.int .i64 0,.int .i64 0,.slice (some ⟨w.heap.size+1+1+1,0,none⟩) 1 1,.string ⟨#[117,115,101,114,115]⟩,.int .i64 3,.bool false,.int .i64 0,.int .i64 0,.slice (some ⟨w.heap.size+1+1+1+1,0,none⟩) 1 1] 117)).alloc (.cells #[.string ⟨#[97,110,110]⟩,.int .i64 3000] 118))
theorem plain_below (w:World):Below w.heap.size w (plainW w):=by
 unfold plainW
 have h0:=Below.refl w.heap.size w
 repeat' first|exact h0|(refine Below.alloc ?_ (by simp;try omega) _)
theorem plain_t0 (w:World):w.heap.size+1<(plainW w).heap.size∧∀i,i<4→(plainW w).cell? ⟨w.heap.size+1,i,none⟩=([.int .i64 100,.int .i64 50,.int .i64 1000000000000,.int .i64 20]:List Value)[i]?:=by
 refine ⟨by simp [plainW],fun i hi=>?_⟩
 simp [plainW,go_sem]
theorem plain_t1 (w:World):w.heap.size+1+1<(plainW w).heap.size∧∀i,i<6→(plainW w).cell? ⟨w.heap.size+1+1,i,none⟩=([.int .i64 50,.int .i64 9,.int .i64 200,.int .i64 7,.int .i64 1000000000000,.int .i64 5]:List Value)[i]?:=by
 refine ⟨by simp [plainW],fun i hi=>?_⟩
 simp [plainW,go_sem]
theorem plain_t2 (w:World):w.heap.size+1+1+1<(plainW w).heap.size∧∀i,i<2→(plainW w).cell? ⟨w.heap.size+1+1+1,i,none⟩=([.int .i64 1000000000000,.int .i64 3]:List Value)[i]?:=by
 refine ⟨by simp [plainW],fun i hi=>?_⟩
 simp [plainW,go_sem]
theorem plain_t3 (w:World):w.heap.size+1+1+1+1<(plainW w).heap.size∧∀i,i<2→(plainW w).cell? ⟨w.heap.size+1+1+1+1,i,none⟩=([.int .i64 1000000000000,.int .i64 1000]:List Value)[i]?:=by
 refine ⟨by simp [plainW],fun i hi=>?_⟩
 simp [plainW,go_sem]
theorem plain_m (w:World):w.heap.size+1+1+1+1+1<(plainW w).heap.size∧∀i,i<24→(plainW w).cell? ⟨w.heap.size+1+1+1+1+1,i,none⟩=([.string ⟨#[99,112,117]⟩,.int .i64 1,.bool false,.int .i64 10,.int .i64 0,.slice (some ⟨w.heap.size+1,0,none⟩) 2 2,.string ⟨#[100,105,115,107]⟩,.int .i64 2,.bool true,.int .i64 0,.int .i64 500,.slice (some ⟨w.heap.size+1+1,0,none⟩) 3 3,.string ⟨#[110,101,116]⟩,.int .i64 4,.bool false,.int .i64 0,.int .i64 0,.slice (some ⟨w.heap.size+1+1+1,0,none⟩) 1 1,.string ⟨#[117,115,101,114,115]⟩,.int .i64 3,.bool false,.int .i64 0,.int .i64 0,.slice (some ⟨w.heap.size+1+1+1+1,0,none⟩) 1 1]:List Value)[i]?:=by
 refine ⟨by simp [plainW],fun i hi=>?_⟩
 simp [plainW,go_sem]
theorem plain_c (w:World):w.heap.size+1+1+1+1+1+1<(plainW w).heap.size∧∀i,i<2→(plainW w).cell? ⟨w.heap.size+1+1+1+1+1+1,i,none⟩=([.string ⟨#[97,110,110]⟩,.int .i64 3000]:List Value)[i]?:=by
 refine ⟨by simp [plainW],fun i hi=>?_⟩
 simp [plainW,go_sem]
set_option maxRecDepth 100000 in
theorem plain_mes (w:World):Mes (some ⟨w.heap.size+1+1+1+1+1,0,none⟩) 4 plainM (plainW w):=by
 refine ⟨rfl,.inr ⟨_,0,rfl,(plain_m w).1,fun j hj=>?_⟩⟩
 have m:=(plain_m w).2
 match j,hj with
 | 0,_=>exact ⟨_,_,m 0 (by omega),m 1 (by omega),m 2 (by omega),m 3 (by omega),m 4 (by omega),m 5 (by omega),⟨rfl,.inr ⟨_,0,rfl,(plain_t0 w).1,fun i hi=>by
  have t:=(plain_t0 w).2
  match i,hi with
  | 0,_=>exact ⟨t 0 (by omega),t 1 (by omega)⟩
  | 1,_=>exact ⟨t 2 (by omega),t 3 (by omega)⟩
  ⟩⟩⟩
 | 1,_=>exact ⟨_,_,m 6 (by omega),m 7 (by omega),m 8 (by omega),m 9 (by omega),m 10 (by omega),m 11 (by omega),⟨rfl,.inr ⟨_,0,rfl,(plain_t1 w).1,fun i hi=>by
  have t:=(plain_t1 w).2
  match i,hi with
  | 0,_=>exact ⟨t 0 (by omega),t 1 (by omega)⟩
  | 1,_=>exact ⟨t 2 (by omega),t 3 (by omega)⟩
  | 2,_=>exact ⟨t 4 (by omega),t 5 (by omega)⟩
  ⟩⟩⟩
 | 2,_=>exact ⟨_,_,m 12 (by omega),m 13 (by omega),m 14 (by omega),m 15 (by omega),m 16 (by omega),m 17 (by omega),⟨rfl,.inr ⟨_,0,rfl,(plain_t2 w).1,fun i hi=>by
  have t:=(plain_t2 w).2
  match i,hi with
  | 0,_=>exact ⟨t 0 (by omega),t 1 (by omega)⟩
  ⟩⟩⟩
 | 3,_=>exact ⟨_,_,m 18 (by omega),m 19 (by omega),m 20 (by omega),m 21 (by omega),m 22 (by omega),m 23 (by omega),⟨rfl,.inr ⟨_,0,rfl,(plain_t3 w).1,fun i hi=>by
  have t:=(plain_t3 w).2
  match i,hi with
  | 0,_=>exact ⟨t 0 (by omega),t 1 (by omega)⟩
  ⟩⟩⟩
theorem plain_crs (w:World):Crs (some ⟨w.heap.size+1+1+1+1+1+1,0,none⟩) 1 plainC.cs (plainW w):=by
 refine ⟨rfl,.inr ⟨_,0,rfl,(plain_c w).1,fun j hj=>?_⟩⟩
 have c:=(plain_c w).2
 match j,hj with
 | 0,_=>exact ⟨c 0 (by omega),c 1 (by omega)⟩
set_option maxRecDepth 100000 in
set_option maxHeartbeats 4000000 in
theorem plain_any (w:World):Calls Tryz.prog 106 #[] w fun e w'=>e=.returned (.agg #[.slice (some ⟨w.heap.size+1+1+1+1+1,0,none⟩) 4 4,.slice (some ⟨w.heap.size+1+1+1+1+1+1,0,none⟩) 1 1])∧w'=plainW w:=by
 have hW:plainW w=(((((((w.alloc (.cells #[.slice (some ⟨w.heap.size+1+1+1+1+1,0,none⟩) 4 4,.slice (some ⟨w.heap.size+1+1+1+1+1+1,0,none⟩) 1 1] 36)).alloc (.cells #[.int .i64 100,.int .i64 50,.int .i64 1000000000000,.int .i64 20] 162)).alloc (.cells #[.int .i64 50,.int .i64 9,.int .i64 200,.int .i64 7,.int .i64 1000000000000,.int .i64 5] 162)).alloc (.cells #[.int .i64 1000000000000,.int .i64 3] 162)).alloc (.cells #[.int .i64 1000000000000,.int .i64 1000] 162)).alloc (.cells #[.string ⟨#[99,112,117]⟩,.int .i64 1,.bool false,.int .i64 10,.int .i64 0,.slice (some ⟨w.heap.size+1,0,none⟩) 2 2,.string ⟨#[100,105,115,107]⟩,.int .i64 2,.bool true,.int .i64 0,.int .i64 500,.slice (some ⟨w.heap.size+1+1,0,none⟩) 3 3,.string ⟨#[110,101,116]⟩,.int .i64 4,.bool false,.int .i64 0,.int .i64 0,.slice (some ⟨w.heap.size+1+1+1,0,none⟩) 1 1,.string ⟨#[117,115,101,114,115]⟩,.int .i64 3,.bool false,.int .i64 0,.int .i64 0,.slice (some ⟨w.heap.size+1+1+1+1,0,none⟩) 1 1] 117)).alloc (.cells #[.string ⟨#[97,110,110]⟩,.int .i64 3000] 118)):=rfl
 obtain ⟨W,hE⟩:∃W,W=plainW w:=⟨_,rfl⟩
 rw [←hE] at hW ⊢
 have HW:Hid (W=(((((((w.alloc (.cells #[.slice (some ⟨w.heap.size+1+1+1+1+1,0,none⟩) 4 4,.slice (some ⟨w.heap.size+1+1+1+1+1+1,0,none⟩) 1 1] 36)).alloc (.cells #[.int .i64 100,.int .i64 50,.int .i64 1000000000000,.int .i64 20] 162)).alloc (.cells #[.int .i64 50,.int .i64 9,.int .i64 200,.int .i64 7,.int .i64 1000000000000,.int .i64 5] 162)).alloc (.cells #[.int .i64 1000000000000,.int .i64 3] 162)).alloc (.cells #[.int .i64 1000000000000,.int .i64 1000] 162)).alloc (.cells #[.string ⟨#[99,112,117]⟩,.int .i64 1,.bool false,.int .i64 10,.int .i64 0,.slice (some ⟨w.heap.size+1,0,none⟩) 2 2,.string ⟨#[100,105,115,107]⟩,.int .i64 2,.bool true,.int .i64 0,.int .i64 500,.slice (some ⟨w.heap.size+1+1,0,none⟩) 3 3,.string ⟨#[110,101,116]⟩,.int .i64 4,.bool false,.int .i64 0,.int .i64 0,.slice (some ⟨w.heap.size+1+1+1,0,none⟩) 1 1,.string ⟨#[117,115,101,114,115]⟩,.int .i64 3,.bool false,.int .i64 0,.int .i64 0,.slice (some ⟨w.heap.size+1+1+1+1,0,none⟩) 1 1] 117)).alloc (.cells #[.string ⟨#[97,110,110]⟩,.int .i64 3000] 118))):=hW
 clear hW hE
 go_enter Tryz.func106,Tryz.ntmps106
 go_wp2_with fail
 rw [←HW.out]
 have c0:W.cell? ⟨w.heap.size,0,none⟩=some (.slice (some ⟨w.heap.size+1+1+1+1+1,0,none⟩) 4 4):=by rw [HW.out];simp [go_sem]
 have c1:W.cell? ⟨w.heap.size,1,none⟩=some (.slice (some ⟨w.heap.size+1+1+1+1+1+1,0,none⟩) 1 1):=by rw [HW.out];simp [go_sem]
 refine bodyPost_ret (v:=.agg #[.slice (some ⟨w.heap.size+1+1+1+1+1,0,none⟩) 4 4,.slice (some ⟨w.heap.size+1+1+1+1+1+1,0,none⟩) 1 1]) (by simp [results,Tryz.results106,go_sem,c0,c1]) rfl ⟨rfl,rfl⟩
end DrawR
end Go.Proofs.YtcilbmhkhllmjaaGreatDoor
