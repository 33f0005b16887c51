/-
  Lists of windows: read, how many letters, the law's own copies, held against each other.
  The law's own helpers over a list of credits: their size, copies, two held against each other.
  A list of entries that came in, read as a row.
  Lists of lines: what is read of a row of them, the law's own copies, and lists held against each other.
  The conditions stand in what each theorem says.
-/
import Derived.Deep.Fields
import Derived.OpenVars
import Derived.Carry
import Derived.ChangeMaps5
import Derived.Lib.SmallJoins
import Derived.DataReads
import Derived.Deep.RegionWith
import Derived.Test.YtnceeaccbcfopaaGreatDoorT7
set_option maxRecDepth 100000
set_option maxHeartbeats 16000000
namespace Go.Proofs.YtnceeaccbcfopaaGreatDoor
open Go.ChangeShapes Go.WideShapes Go.ChangeAt Go.RowKit
set_option linter.unusedVariables false
namespace WinR
open RowG
open EvtR (Pt cell_put cell_far)
open CatR (SzOut)
open Go.Deep
def Wd.zero:Wd:=⟨⟨#[]⟩,⟨#[]⟩,0,0,0,0,[],[]⟩
def WinAt (w:World) (b o:Nat) (x:Wd):Prop:=∃ta tc ha hc,w.cell? ⟨b,o,none⟩=some (.string x.a)∧w.cell? ⟨b,o+1,none⟩=some (.string x.m)∧w.cell? ⟨b,o+2,none⟩=some (.int .i64 x.mo)∧w.cell? ⟨b,o+3,none⟩=some (.int .i64 x.ev)∧w.cell? ⟨b,o+4,none⟩=some (.int .i64 x.su)∧w.cell? ⟨b,o+5,none⟩=some (.int .i64 x.mx)∧w.cell? ⟨b,o+6,none⟩=some (.slice ta x.ts.length tc)∧w.cell? ⟨b,o+7,none⟩=some (.slice ha x.hs.length hc)∧Tgs ta x.ts w∧Hrs ha x.hs w
def Wns (ao:Option Addr) (ws:List Wd) (w:World):Prop:=ws.length=0∨∃b off,ao=some ⟨b,off,none⟩∧b<w.heap.size∧∀j,j<ws.length→WinAt w b (off+j*8) (ws.getD j Wd.zero)
theorem WinAt.below {w w':World} {b o:Nat} {x:Wd} (h:WinAt w b o x) (hl:b<w.heap.size) (hb:Below w.heap.size w w'):WinAt w' b o x:=by
 obtain ⟨ta,tc,ha,hc,h0,h1,h2,h3,h4,h5,h6,h7,hT,hH⟩:=h
 have f:=fun k=>hb.cell (p:=⟨b,k,none⟩) hl
 exact ⟨ta,tc,ha,hc,(f _).trans h0,(f _).trans h1,(f _).trans h2,(f _).trans h3,(f _).trans h4,(f _).trans h5,(f _).trans h6,(f _).trans h7,hT.below hb,hH.below hb⟩
theorem Wns.below {ao:Option Addr} {ws:List Wd} {w w':World} (h:Wns ao ws w) (hb:Below w.heap.size w w'):Wns ao ws w' :=
 h.imp id (fun ⟨b,off,e,hl,hc⟩=>⟨b,off,e,by have:=hb.size;omega,fun j hj=>(hc j hj).below hl hb⟩)
theorem Wns.at {ao:Option Addr} {ws:List Wd} {w:World} (h:Wns ao ws w) (j:Nat) (hj:j<ws.length):∃b off ta tc ha hc,ao=some ⟨b,off,none⟩∧b<w.heap.size∧w.cell? ⟨b,off+j*8,none⟩=some (.string (ws.getD j Wd.zero).a)∧w.cell? ⟨b,off+j*8+1,none⟩=some (.string (ws.getD j Wd.zero).m)∧w.cell? ⟨b,off+j*8+2,none⟩=some (.int .i64 (ws.getD j Wd.zero).mo)∧w.cell? ⟨b,off+j*8+3,none⟩=some (.int .i64 (ws.getD j Wd.zero).ev)∧w.cell? ⟨b,off+j*8+4,none⟩=some (.int .i64 (ws.getD j Wd.zero).su)∧w.cell? ⟨b,off+j*8+5,none⟩=some (.int .i64 (ws.getD j Wd.zero).mx)∧w.cell? ⟨b,off+j*8+6,none⟩=some (.slice ta (ws.getD j Wd.zero).ts.length tc)∧w.cell? ⟨b,off+j*8+7,none⟩=some (.slice ha (ws.getD j Wd.zero).hs.length hc)∧Tgs ta (ws.getD j Wd.zero).ts w∧Hrs ha (ws.getD j Wd.zero).hs w:=by
 rcases h with h0|⟨b,off,e,hl,hc⟩
 ·omega
 ·obtain ⟨ta,tc,ha,hc,h⟩:=hc j hj
  exact ⟨b,off,ta,tc,ha,hc,e,hl,h⟩
def IsWns (w:World) (a:Option Addr) (ws:List Wd):Prop:=ws.length≤maxLen∧Wns a ws w∧∀x∈ws,x.In
section
variable {J:Type} {enc:TypeId × Value→J} {P:Program} {w:World} {base:Nat} {spare:Nat→Bool} {held:Bool}
theorem wns_open {t e te th:TypeId} {f0 f1 f2 f3 f4 f5 f6 f7 g0 g1:Field} {fuel:Nat} {ao:Option Addr} {len cap:Nat} {x:DataW J × List MemPlace} (htt:P.underlying t=some (.slice e)) (hs:P.underlying e=some (.struct #[f0,f1,f2,f3,f4,f5,f6,f7])) (hone:oneCellFields P #[f0,f1,f2,f3,f4,f5,f6,f7]=true) (hC:P.cellsOf e=8)
 (u0:P.underlying f0.type=some .string) (u1:P.underlying f1.type=some .string) (u2:P.underlying f2.type=some (.int .i64)) (u3:P.underlying f3.type=some (.int .i64)) (u4:P.underlying f4.type=some (.int .i64)) (u5:P.underlying f5.type=some (.int .i64)) (u6:P.underlying f6.type=some (.slice te)) (u7:P.underlying f7.type=some (.slice th))
 (ut:P.underlying te=some .string) (hCt:P.cellsOf te=1) (hs2:P.underlying th=some (.struct #[g0,g1])) (hone2:oneCellFields P #[g0,g1]=true) (hC2:P.cellsOf th=2) (v0:P.underlying g0.type=some (.int .i64)) (v1:P.underlying g1.type=some (.int .i64))
 (h:DataW.trod enc P w base spare held fuel t [.slice ao len cap]=some x):∃ws:List Wd,ws.length=len∧IsWns w ao ws:=by
 obtain ⟨h1,f,hq,h2⟩:=CatR.row_open 8 (fun (x:Wd) cs=>∃ta tc ha hc,cs=(wcells x ta tc ha hc).toList∧x.In∧Tgs ta x.ts w∧Hrs ha x.hs w) Wd.zero htt hC (by omega) (fun fuel cs y h=>by
  obtain ⟨x,ta,tc,ha,hc,e,hi,hT,hH⟩:=win_open hs hone hC u0 u1 u2 u3 u4 u5 u6 u7 ut hCt hs2 hone2 hC2 v0 v1 h
  exact ⟨x,⟨ta,tc,ha,hc,e,hi,hT,hH⟩,by rw [e];rfl⟩) h
 refine ⟨(List.range len).map f,by simp,by simpa using h1,?_,fun x hx=>?_⟩
 ·rcases h2 with h2|⟨b,off,rfl,hb,hc⟩
  ·exact .inl (by simpa using h2)
  ·refine .inr ⟨b,off,rfl,hb,fun j hj=>?_⟩
   have hj':j<len:=by simpa using hj
   obtain ⟨cs,⟨ta,tc,ha,hc2,rfl,_,hT,hH⟩,g⟩:=hc j hj'
   rw [CatR.lst_getD f _ len j hj']
   exact ⟨ta,tc,ha,hc2,g 0 (by omega),g 1 (by omega),g 2 (by omega),g 3 (by omega),g 4 (by omega),g 5 (by omega),g 6 (by omega),g 7 (by omega),hT,hH⟩
 ·obtain ⟨i,hi,rfl⟩:=List.mem_map.1 hx
  obtain ⟨cs,ta,tc,ha,hc,_,h3,_,_⟩:=hq i (List.mem_range.1 hi)
  exact h3
end
theorem szWs (ao:Option Addr) (cap:Nat) (ws:List Wd) (left:Int) (w:World) (hm:ws.length≤maxLen) (h0:0≤left) (h1:left≤1048576) (hI:Wns ao ws w) (hin:∀x∈ws,x.In) :
 Calls Tryz.prog 16 #[.slice ao ws.length cap,.int .i64 left] w fun e w'=>SzOut left (ws.length≤1048576∧∀i,i<ws.length→(ws.getD i Wd.zero).Small) e∧Below w.heap.size w w':=by
 have HI:=H_ hI
 have HIn:=H_ hin
 have HEND:Hid (∀L:Int,ws.length≤1048576→(∀i,i<ws.length→(ws.getD i Wd.zero).Small)→0≤L→L≤left→SzOut left (ws.length≤1048576∧∀i,i<ws.length→(ws.getD i Wd.zero).Small) (.returned (.int .i64 L))):=H_ (fun L a b c d=>⟨L,rfl,.inr ⟨c,d,a,b⟩⟩)
 have HBAD:Hid (SzOut left (ws.length≤1048576∧∀i,i<ws.length→(ws.getD i Wd.zero).Small) (.returned (.int .i64 (-1)))):=H_ ⟨-1,rfl,.inl rfl⟩
 generalize SzOut left (ws.length≤1048576∧∀i,i<ws.length→(ws.getD i Wd.zero).Small)=PO at *
 obtain ⟨len,hl⟩:∃len,len=ws.length:=⟨_,rfl⟩
 rw [←hl] at hm HEND ⊢
 have HL:=H_ hl
 unfold maxLen at hm
 clear hI hin hl
 by_cases hbig:left-(len:Int)<0
 ·go_enter Tryz.func16,Tryz.ntmps16
  go_wp2_with fail
  go_ret
  exact ⟨HBAD.out,Below.refl _ _⟩
 go_enter Tryz.func16,Tryz.ntmps16
 go_wp2_with fail
 go_loopw [5,1] (fun x y wr=>∃(j:Nat) (L:Int),j≤len∧x=.int .i64 j∧y=.int .i64 L∧0≤L∧L≤left∧Hid (∀i,i<j→(ws.getD i Wd.zero).Small)∧Hid (Below w.heap.size w wr)) (fun x _ _=>len-(intOf x).toNat)
 case atStart=>exact ⟨0,left-(len:Int),by omega,rfl,rfl,by omega,by omega,H_ (fun i hi=>absurd hi (by omega)),H_ (Below.refl _ _)⟩
 case round =>
  obtain ⟨j,L,hj,rfl,rfl,l0,l1,HD,HB⟩:=hrel
  by_cases hlt:j<len
  ·have hlt2:(j:Int)<(len:Int):=by omega
   have hkl:j<ws.length:=by have:=HL.out;omega
   obtain ⟨b,off,ta,tc,ha,hc,rfl,hbl,c0,c1,c2,c3,c4,c5,c6,c7,hT,hH⟩:=(HI.out.below HB.out).at j hkl
   have HC:=H_ (szW_any (ws.getD j Wd.zero) ta tc ha hc L wr l0 (by omega) (HIn.out _ (getD_mem (z:=Wd.zero) ws j hkl)) hT)
   have HSM:Hid (¬wszR (ws.getD j Wd.zero) L<0→0≤wszR (ws.getD j Wd.zero) L∧wszR (ws.getD j Wd.zero) L≤L∧∀i,i<j+1→(ws.getD i Wd.zero).Small):=H_ (fun h=>by
    obtain ⟨h2,h3,h4⟩:=wsz_small (by omega) h
    refine ⟨h3,?_,fun i hi=>?_⟩
    ·have n0:=tsz_nn (ws.getD j Wd.zero).ts
     unfold wszR at h ⊢
     split at h<;>split<;>omega
    ·by_cases e:i=j
     ·subst e;exact h2
     ·exact HD.out i (by omega))
   generalize hX:ws.getD j Wd.zero=X at *
   clear hX
   obtain ⟨xa,xm,xo,xe,xs,xx,xt,xh⟩:=X
   unfold wcells at HC
   dsimp only at c0 c1 c2 c3 c4 c5 c6 c7 HC
   generalize wszR ⟨xa,xm,xo,xe,xs,xx,xt,xh⟩ L=L2 at *
   generalize xt.length=tl at *
   generalize xh.length=hl at *
   clear hT hH HD
   by_cases hs:L2<0
   ·go_wp2_with fail
    refine HC.out.mono ?_
    rintro e w1 ⟨rfl,hb⟩
    have HB1:=HT_ HB hb
    clear hb c0 c1 c2 c3 c4 c5 c6 c7
    go_wp2_with fail
    go_ret
    exact ⟨HBAD.out,HB1.out⟩
   ·obtain ⟨s0,s1,s2⟩:=HSM.out hs
    have HS2:=H_ s2
    clear s2
    go_wp2_with fail
    refine HC.out.mono ?_
    rintro e w1 ⟨rfl,hb⟩
    have HB1:=HT_ HB hb
    clear hb c0 c1 c2 c3 c4 c5 c6 c7
    go_wp2_with fail
    go_roundw
    case rel=>exact ⟨j+1,L2,by omega,by go_num,rfl,s0,by omega,HS2,HB1⟩
    case measure=>simp [intOf];omega
  ·have hlt2:¬(j:Int)<(len:Int):=by omega
   obtain rfl:j=len:=by omega
   go_wp2_with fail
   go_ret
   exact ⟨HEND.out L (by omega) HD.out l0 l1,HB.out⟩
theorem infoWd:(Tryz.prog.info? 106).map (fun i=>(i.zero,i.size,i.bytes))=some (some (.agg #[.string ⟨#[]⟩,.string ⟨#[]⟩,.int .i64 0,.int .i64 0,.int .i64 0,.int .i64 0,.slice none 0 0,.slice none 0 0]),8,112):=by kernel_rfl
def Inn (g t:Nat) (a:Option Addr) (n m:Nat) (W:World):Prop:=n=0∨∃g',a=some ⟨g',0,none⟩∧g<g'∧g'<t∧Pt g' m W
theorem ptA {p q n o:Nat} {W:World} {v:Value} (h:Pt p n W):Pt p n (W.setCell ⟨q,o,none⟩ v):=by
 by_cases e:p=q
 ·subst e;exact h.set _ _
 ·have eb:=(grown_set W q o v).block p h.lt (by simp;exact e)
  exact ⟨by have:=h.lt;simpa using this,fun x hx=>by obtain ⟨u,hu⟩:=h.has x hx;exact ⟨u,(World.cell?_of_block (a:=⟨p,x,none⟩) eb).trans hu⟩,fun x hx=>(World.frozen?_of_block (a:=⟨p,x,none⟩) eb).trans (h.free x hx)⟩
theorem Inn.ne {g t:Nat} {a:Option Addr} {n m:Nat} {W:World} (h:Inn g t a n m W):n=0∨∀b off,a=some ⟨b,off,none⟩→b≠g:=h.imp id (fun ⟨g',e1,e2,_⟩ b off e=>by rw [e1] at e;simp at e;omega)
theorem Inn.below {g t t':Nat} {a:Option Addr} {n m:Nat} {W W':World} (h:Inn g t a n m W) (hb:Below W.heap.size W W') (ht:t≤t'):Inn g t' a n m W':=h.imp id (fun ⟨g',e1,e2,e3,e4⟩=>⟨g',e1,e2,by omega,e4.below hb⟩)
theorem Inn.put {g t q o:Nat} {a:Option Addr} {n m:Nat} {W:World} {v:Value} (h:Inn g t a n m W):Inn g t a n m (W.setCell ⟨q,o,none⟩ v):=h.imp id (fun ⟨g',e1,e2,e3,e4⟩=>⟨g',e1,e2,e3,ptA e4⟩)
theorem Inn.top {g t t':Nat} {a:Option Addr} {n m:Nat} {W:World} (h:Inn g t a n m W) (ht:t≤t'):Inn g t' a n m W:=h.imp id (fun ⟨g',e1,e2,e3,e4⟩=>⟨g',e1,e2,by omega,e4⟩)
def WW (g k:Nat) (ws:List Wd) (W:World):Prop:=∀j,j<k→∃ta tc ha hc,W.cell? ⟨g,j*8,none⟩=some (.string (ws.getD j Wd.zero).a)∧W.cell? ⟨g,j*8+1,none⟩=some (.string (ws.getD j Wd.zero).m)∧W.cell? ⟨g,j*8+2,none⟩=some (.int .i64 (ws.getD j Wd.zero).mo)∧W.cell? ⟨g,j*8+3,none⟩=some (.int .i64 (ws.getD j Wd.zero).ev)∧W.cell? ⟨g,j*8+4,none⟩=some (.int .i64 (ws.getD j Wd.zero).su)∧W.cell? ⟨g,j*8+5,none⟩=some (.int .i64 (ws.getD j Wd.zero).mx)∧W.cell? ⟨g,j*8+6,none⟩=some (.slice ta (ws.getD j Wd.zero).ts.length tc)∧W.cell? ⟨g,j*8+7,none⟩=some (.slice ha (ws.getD j Wd.zero).hs.length hc)∧Tgs ta (ws.getD j Wd.zero).ts W∧Hrs ha (ws.getD j Wd.zero).hs W∧Inn g W.heap.size ta (ws.getD j Wd.zero).ts.length ((ws.getD j Wd.zero).ts.length*1) W∧Inn g W.heap.size ha (ws.getD j Wd.zero).hs.length ((ws.getD j Wd.zero).hs.length*2) W
theorem WW.below {g k:Nat} {ws:List Wd} {W W':World} (h:WW g k ws W) (hg:g<W.heap.size) (hb:Below W.heap.size W W'):WW g k ws W':=by
 intro j hj
 obtain ⟨ta,tc,ha,hc,c0,c1,c2,c3,c4,c5,c6,c7,hT,hH,n1,n2⟩:=h j hj
 have f:=fun x=>hb.cell (p:=⟨g,x,none⟩) hg
 exact ⟨ta,tc,ha,hc,(f _).trans c0,(f _).trans c1,(f _).trans c2,(f _).trans c3,(f _).trans c4,(f _).trans c5,(f _).trans c6,(f _).trans c7,hT.below hb,hH.below hb,n1.below hb hb.size,n2.below hb hb.size⟩
theorem WW.put {g k o:Nat} {ws:List Wd} {W:World} (h:WW g k ws W) (ho:k*8≤o) (v:Value):WW g k ws (W.setCell ⟨g,o,none⟩ v):=by
 intro j hj
 obtain ⟨ta,tc,ha,hc,c0,c1,c2,c3,c4,c5,c6,c7,hT,hH,n1,n2⟩:=h j hj
 exact ⟨ta,tc,ha,hc,(cell_far _ _ (by omega) v).trans c0,(cell_far _ _ (by omega) v).trans c1,(cell_far _ _ (by omega) v).trans c2,(cell_far _ _ (by omega) v).trans c3,(cell_far _ _ (by omega) v).trans c4,(cell_far _ _ (by omega) v).trans c5,(cell_far _ _ (by omega) v).trans c6,(cell_far _ _ (by omega) v).trans c7,DocR.Rws.put hT g o v n1.ne,DocR.Rws.put hH g o v n2.ne,n1.put.top (by simp),n2.put.top (by simp)⟩
theorem WW.more {g k n:Nat} {ws:List Wd} {W:World} (h:WW g k ws W) (hp:Pt g n W) (hk:k*8+7<n) (ta ha:Option Addr) (tc hc:Nat) (hT:Tgs ta (ws.getD k Wd.zero).ts W) (hH:Hrs ha (ws.getD k Wd.zero).hs W) (n1:Inn g W.heap.size ta (ws.getD k Wd.zero).ts.length ((ws.getD k Wd.zero).ts.length*1) W) (n2:Inn g W.heap.size ha (ws.getD k Wd.zero).hs.length ((ws.getD k Wd.zero).hs.length*2) W) :
 WW g (k+1) ws ((((((((W.setCell ⟨g,k*8,none⟩ (.string (ws.getD k Wd.zero).a)).setCell ⟨g,k*8+1,none⟩ (.string (ws.getD k Wd.zero).m)).setCell ⟨g,k*8+2,none⟩ (.int .i64 (ws.getD k Wd.zero).mo)).setCell ⟨g,k*8+3,none⟩ (.int .i64 (ws.getD k Wd.zero).ev)).setCell ⟨g,k*8+4,none⟩ (.int .i64 (ws.getD k Wd.zero).su)).setCell ⟨g,k*8+5,none⟩ (.int .i64 (ws.getD k Wd.zero).mx)).setCell ⟨g,k*8+6,none⟩ (.slice ta (ws.getD k Wd.zero).ts.length tc)).setCell ⟨g,k*8+7,none⟩ (.slice ha (ws.getD k Wd.zero).hs.length hc)):=by
 intro j hj
 by_cases e:j=k
 ·subst e
  have p0:=hp
  have p1:=p0.set (j*8) (.string (ws.getD j Wd.zero).a)
  have p2:=p1.set (j*8+1) (.string (ws.getD j Wd.zero).m)
  have p3:=p2.set (j*8+2) (.int .i64 (ws.getD j Wd.zero).mo)
  have p4:=p3.set (j*8+3) (.int .i64 (ws.getD j Wd.zero).ev)
  have p5:=p4.set (j*8+4) (.int .i64 (ws.getD j Wd.zero).su)
  have p6:=p5.set (j*8+5) (.int .i64 (ws.getD j Wd.zero).mx)
  have p7:=p6.set (j*8+6) (.slice ta (ws.getD j Wd.zero).ts.length tc)
  refine ⟨ta,tc,ha,hc,?_,?_,?_,?_,?_,?_,?_,cell_put p7 _ hk _,DocR.Rws.put (DocR.Rws.put (DocR.Rws.put (DocR.Rws.put (DocR.Rws.put (DocR.Rws.put (DocR.Rws.put (DocR.Rws.put (hT) g _ _ n1.ne) g _ _ n1.ne) g _ _ n1.ne) g _ _ n1.ne) g _ _ n1.ne) g _ _ n1.ne) g _ _ n1.ne) g _ _ n1.ne,DocR.Rws.put (DocR.Rws.put (DocR.Rws.put (DocR.Rws.put (DocR.Rws.put (DocR.Rws.put (DocR.Rws.put (DocR.Rws.put (hH) g _ _ n2.ne) g _ _ n2.ne) g _ _ n2.ne) g _ _ n2.ne) g _ _ n2.ne) g _ _ n2.ne) g _ _ n2.ne) g _ _ n2.ne,?_,?_⟩
  ·rw [cell_far _ _ (by omega),cell_far _ _ (by omega),cell_far _ _ (by omega),cell_far _ _ (by omega),cell_far _ _ (by omega),cell_far _ _ (by omega),cell_far _ _ (by omega),cell_put p0 _ (by omega)]
  ·rw [cell_far _ _ (by omega),cell_far _ _ (by omega),cell_far _ _ (by omega),cell_far _ _ (by omega),cell_far _ _ (by omega),cell_far _ _ (by omega),cell_put p1 _ (by omega)]
  ·rw [cell_far _ _ (by omega),cell_far _ _ (by omega),cell_far _ _ (by omega),cell_far _ _ (by omega),cell_far _ _ (by omega),cell_put p2 _ (by omega)]
  ·rw [cell_far _ _ (by omega),cell_far _ _ (by omega),cell_far _ _ (by omega),cell_far _ _ (by omega),cell_put p3 _ (by omega)]
  ·rw [cell_far _ _ (by omega),cell_far _ _ (by omega),cell_far _ _ (by omega),cell_put p4 _ (by omega)]
  ·rw [cell_far _ _ (by omega),cell_far _ _ (by omega),cell_put p5 _ (by omega)]
  ·rw [cell_far _ _ (by omega),cell_put p6 _ (by omega)]
  ·exact Inn.top (n1.put.put.put.put.put.put.put.put) (by simp)
  ·exact Inn.top (n2.put.put.put.put.put.put.put.put) (by simp)
 ·exact (((((((((h.put (by omega) _).put (by omega) _).put (by omega) _).put (by omega) _).put (by omega) _).put (by omega) _).put (by omega) _).put (by omega) _)) j (by omega)
def WX (g t k:Nat) (ws:List Wd) (W:World):Prop:=∀j,j<k→∃ta tc ha hc,W.cell? ⟨g,j*8+6,none⟩=some (.slice ta (ws.getD j Wd.zero).ts.length tc)∧W.cell? ⟨g,j*8+7,none⟩=some (.slice ha (ws.getD j Wd.zero).hs.length hc)∧Inn g t ta (ws.getD j Wd.zero).ts.length ((ws.getD j Wd.zero).ts.length*1) W∧Inn g t ha (ws.getD j Wd.zero).hs.length ((ws.getD j Wd.zero).hs.length*2) W
theorem WW.wx {g k:Nat} {ws:List Wd} {W:World} (h:WW g k ws W):WX g W.heap.size k ws W:=fun j hj=>by
 obtain ⟨ta,tc,ha,hc,_,_,_,_,_,_,c6,c7,_,_,n1,n2⟩:=h j hj
 exact ⟨ta,tc,ha,hc,c6,c7,n1,n2⟩
theorem WW.wns {g:Nat} {ws:List Wd} {W:World} (h:WW g ws.length ws W) (hg:g<W.heap.size):Wns (some ⟨g,0,none⟩) ws W:=.inr ⟨g,0,rfl,hg,fun j hj=>by
 obtain ⟨ta,tc,ha,hc,c0,c1,c2,c3,c4,c5,c6,c7,hT,hH,_⟩:=h j hj
 exact ⟨ta,tc,ha,hc,by rw [Nat.zero_add];exact c0,by rw [Nat.zero_add];exact c1,by rw [Nat.zero_add];exact c2,by rw [Nat.zero_add];exact c3,by rw [Nat.zero_add];exact c4,by rw [Nat.zero_add];exact c5,by rw [Nat.zero_add];exact c6,by rw [Nat.zero_add];exact c7,hT,hH⟩⟩
theorem toWs (ao:Option Addr) (cap:Nat) (ws:List Wd) (w:World) (hlen:ws.length≤1048576) (hSm:∀i,i<ws.length→(ws.getD i Wd.zero).Small) (hI:Wns ao ws w) :
 Calls Tryz.prog 25 #[.slice ao ws.length cap] w fun e w'=>e=.returned (.slice (some ⟨w.heap.size,0,none⟩) ws.length ws.length)∧WW w.heap.size ws.length ws w'∧Pt w.heap.size (ws.length*8) w'∧Below w.heap.size w w':=by
 obtain ⟨i0,hi,hz0,hz1,hz2⟩:=info_parts infoWd
 have HI:=H_ hI
 have HSm:=H_ hSm
 obtain ⟨len,hl⟩:∃len,len=ws.length:=⟨_,rfl⟩
 rw [←hl] at hlen ⊢
 have HL:=H_ hl
 clear hI hl hSm
 go_enter Tryz.func25,Tryz.ntmps25
 go_wp2_with (at_make;refine wpList_make_full _ rfl _ _ 39 rfl w.heap.size 106 i0 (.agg #[.string ⟨#[]⟩,.string ⟨#[]⟩,.int .i64 0,.int .i64 0,.int .i64 0,.int .i64 0,.slice none 0 0,.slice none 0 0]) 8 Tryz.underlying39 hi hz0 hz1 .i64 .i64 _ _ len rfl rfl rfl rfl ?b2 ?b3 ?b4 ?_)
 case b2=>rw [hz2];omega
 case b3=>unfold maxLen;omega
 case b4=>exact Nat.le_refl _
 intro wm hown hgrow
 have HB0:Hid (Below w.heap.size w wm):=H_ ((Below.refl _ _).grown hgrow (Nat.le_refl _) (fun k e=>by cases e))
 have HP0:=H_ (row_full hown)
 clear hown hgrow hi hz0 hz1 hz2
 go_wp2_with fail
 go_loopw [4] (fun z wr=>∃k:Nat,k≤len∧z=.int .i64 k∧Hid (Below w.heap.size w wr)∧Hid (Pt w.heap.size (len*8) wr)∧Hid (WW w.heap.size k ws wr)) (fun z _=>len-(intOf z).toNat)
 case atStart=>exact ⟨0,by omega,rfl,HB0,HP0,H_ (fun j hj=>absurd hj (by omega))⟩
 case round =>
  obtain ⟨k,hk,rfl,HB,HP,HW⟩:=hrel
  by_cases hlt:k<len
  ·have hlt2:(k:Int)<(len:Int):=by omega
   have hkl:k<ws.length:=by have:=HL.out;omega
   obtain ⟨b,off,ta,tc,ha,hc,rfl,hbl,c0,c1,c2,c3,c4,c5,c6,c7,hT,hH⟩:=(HI.out.below HB.out).at k hkl
   have hsm:=HSm.out k hkl
   have HC:=H_ (toW_any (.agg (wcells (ws.getD k Wd.zero) ta tc ha hc)) (ws.getD k Wd.zero) wr hsm.2.2.1 hsm.2.2.2.2 ⟨ta,tc,ha,hc,rfl,hT,hH⟩)
   have HMORE:=H_ (fun (W:World) (h:WW w.heap.size k ws W) (hp:Pt w.heap.size (len*8) W) ta ha tc hc hT hH n1 n2=>h.more hp (by omega) ta ha tc hc hT hH n1 n2)
   obtain ⟨X,hX⟩:∃X,X=ws.getD k Wd.zero:=⟨_,rfl⟩
   rw [←hX] at c0 c1 c2 c3 c4 c5 c6 c7 HC HMORE
   clear hX hsm hT hH
   obtain ⟨xa,xm,xo,xe,xs,xx,xt,xh⟩:=X
   unfold wcells at HC
   dsimp only at c0 c1 c2 c3 c4 c5 c6 c7 HC HMORE
   have hsz0:=HP.out.lt
   go_wp2_with fail
   refine HC.out.mono ?_
   rintro e w1 ⟨v,rfl,⟨ta1,tc1,ha1,hc1,rfl,hm,hn,_⟩,hb⟩
   replace HW:=H_ (HW.out.below hsz0 hb)
   replace HP:=H_ (HP.out.below hb)
   replace HB:=HT_ HB hb
   have HM1:=H_ (HMORE.out w1 HW.out HP.out ta1 ha1 tc1 hc1 hm.rws hn.rws (hm.own.imp id (fun ⟨g',e1,e2,e3⟩=>⟨g',e1,by omega,e3.lt,e3⟩)) (hn.own.imp id (fun ⟨g',e1,e2,e3⟩=>⟨g',e1,by omega,e3.lt,e3⟩)))
   have HP1:=H_ (((((((((HP.out.set (k*8) (.string xa)).set (k*8+1) (.string xm)).set (k*8+2) (.int .i64 xo)).set (k*8+3) (.int .i64 xe)).set (k*8+4) (.int .i64 xs)).set (k*8+5) (.int .i64 xx)).set (k*8+6) (.slice ta1 xt.length tc1)).set (k*8+7) (.slice ha1 xh.length hc1)))
   have HB1:Hid (Below w.heap.size w ((((((((w1.setCell ⟨w.heap.size,k*8,none⟩ (.string xa)).setCell ⟨w.heap.size,k*8+1,none⟩ (.string xm)).setCell ⟨w.heap.size,k*8+2,none⟩ (.int .i64 xo)).setCell ⟨w.heap.size,k*8+3,none⟩ (.int .i64 xe)).setCell ⟨w.heap.size,k*8+4,none⟩ (.int .i64 xs)).setCell ⟨w.heap.size,k*8+5,none⟩ (.int .i64 xx)).setCell ⟨w.heap.size,k*8+6,none⟩ (.slice ta1 xt.length tc1)).setCell ⟨w.heap.size,k*8+7,none⟩ (.slice ha1 xh.length hc1))):=H_ (((((((((HB.out.setCell (Nat.le_refl _) _).setCell (Nat.le_refl _) _).setCell (Nat.le_refl _) _).setCell (Nat.le_refl _) _).setCell (Nat.le_refl _) _).setCell (Nat.le_refl _) _).setCell (Nat.le_refl _) _).setCell (Nat.le_refl _) _))
   obtain ⟨v0,d0⟩:=HP.out.has (k*8) (by omega)
   have z0:=HP.out.free (k*8) (by omega)
   obtain ⟨v1,d1⟩:=HP.out.has (k*8+1) (by omega)
   have z1:=HP.out.free (k*8+1) (by omega)
   obtain ⟨v2,d2⟩:=HP.out.has (k*8+2) (by omega)
   have z2:=HP.out.free (k*8+2) (by omega)
   obtain ⟨v3,d3⟩:=HP.out.has (k*8+3) (by omega)
   have z3:=HP.out.free (k*8+3) (by omega)
   obtain ⟨v4,d4⟩:=HP.out.has (k*8+4) (by omega)
   have z4:=HP.out.free (k*8+4) (by omega)
   obtain ⟨v5,d5⟩:=HP.out.has (k*8+5) (by omega)
   have z5:=HP.out.free (k*8+5) (by omega)
   obtain ⟨v6,d6⟩:=HP.out.has (k*8+6) (by omega)
   have z6:=HP.out.free (k*8+6) (by omega)
   obtain ⟨v7,d7⟩:=HP.out.has (k*8+7) (by omega)
   have z7:=HP.out.free (k*8+7) (by omega)
   have hsz1:=HP.out.lt
   unfold wcells
   dsimp only
   clear hb hm hn c0 c1 c2 c3 c4 c5 c6 c7 HMORE hsz0
   generalize xt.length=tl at *
   generalize xh.length=hl at *
   go_wp2_with fail
   go_roundw
   case rel=>exact ⟨k+1,by omega,by go_num,HB1,HP1,HM1⟩
   case measure=>simp [intOf];omega
  ·have hlt2:¬(k:Int)<(len:Int):=by omega
   obtain rfl:k=len:=by omega
   go_wp2_with fail
   go_ret
   exact ⟨rfl,HW.out,HP.out,HB.out⟩
theorem eqWs (ao bo:Option Addr) (cap cap':Nat) (ws:List Wd) (w:World) (hlen:ws.length≤1048576) (hSm:∀i,i<ws.length→(ws.getD i Wd.zero).Small) (hI:Wns ao ws w) (hJ:Wns bo ws w) :
 Calls Tryz.prog 37 #[.slice ao ws.length cap,.slice bo ws.length cap'] w fun e w'=>e=.returned (.bool true)∧Below w.heap.size w w':=by
 have HI:=H_ hI
 have HJ:=H_ hJ
 have HSm:=H_ hSm
 obtain ⟨len,hl⟩:∃len,len=ws.length:=⟨_,rfl⟩
 rw [←hl] at hlen ⊢
 have HL:=H_ hl
 clear hI hJ hl hSm
 go_enter Tryz.func37,Tryz.ntmps37
 go_wp2_with fail
 go_loopw [5] (fun z wr=>∃k:Nat,k≤len∧z=.int .i64 k∧Hid (Below w.heap.size w wr)) (fun z _=>len-(intOf z).toNat)
 case atStart=>exact ⟨0,by omega,rfl,H_ (Below.refl _ _)⟩
 case round =>
  obtain ⟨k,hk,rfl,HW⟩:=hrel
  by_cases hlt:k<len
  ·have hlt2:(k:Int)<(len:Int):=by omega
   have hkl:k<ws.length:=by have:=HL.out;omega
   obtain ⟨b,off,ta,tc,ha,hc,rfl,_,c0,c1,c2,c3,c4,c5,c6,c7,hT,hH⟩:=(HI.out.below HW.out).at k hkl
   obtain ⟨b',off',ta',tc',ha',hc',rfl,_,e0,e1,e2,e3,e4,e5,e6,e7,hT',hH'⟩:=(HJ.out.below HW.out).at k hkl
   have hsm:=HSm.out k hkl
   have HC:=H_ (eqW_any (.agg (wcells (ws.getD k Wd.zero) ta tc ha hc)) (.agg (wcells (ws.getD k Wd.zero) ta' tc' ha' hc')) (ws.getD k Wd.zero) wr.drew hsm.2.2.1 hsm.2.2.2.2 ⟨ta,tc,ha,hc,rfl,hT.below (Below.refl _ _).drew,hH.below (Below.refl _ _).drew⟩ ⟨ta',tc',ha',hc',rfl,hT'.below (Below.refl _ _).drew,hH'.below (Below.refl _ _).drew⟩)
   generalize ws.getD k Wd.zero=X at *
   obtain ⟨xa,xm,xo,xe,xs,xx,xt,xh⟩:=X
   unfold wcells at HC
   dsimp only at c0 c1 c2 c3 c4 c5 c6 c7 e0 e1 e2 e3 e4 e5 e6 e7 HC
   clear hsm hT hH hT' hH'
   generalize xt.length=tl at *
   generalize xh.length=hl at *
   go_wp2_with fail
   go_region_with (go_at_call 86;refine HC.out.mono ?_;rintro e w1 ⟨rfl,hb⟩)
   all_goals (
    have HB1:=H_ (HW.out.drew.trans (hb.mono HW.out.drew.size))
    clear hb c0 c1 c2 c3 c4 c5 c6 c7 e0 e1 e2 e3 e4 e5 e6 e7
    go_wp2_with fail
    go_roundw
    case rel=>exact ⟨k+1,by omega,by go_num,HB1⟩
    case measure=>simp [intOf];omega)
  ·have hlt2:¬(k:Int)<(len:Int):=by omega
   go_wp2_with fail
   go_ret
   exact ⟨rfl,HW.out⟩
end WinR
namespace CatR
open EvtR (Pt cell_put cell_far)
theorem infoC:(Tryz.prog.info? 151).map (fun i=>(i.zero,i.size,i.bytes))=some (some (.agg #[.string ⟨#[]⟩,.int .i64 0]),2,24):=by kernel_rfl
theorem szCr_any (a:ByteArray) (m left:Int) (ha:a.size≤maxLen) (h0:0≤left) (h1:left≤1048576) (w:World) :
 Calls Tryz.prog 99 #[.agg #[.string a,.int .i64 m],.int .i64 left] w fun e w'=>e=.returned (.int .i64 (if (a.size:Int)≤left then left-a.size else -1))∧Below w.heap.size w w':=by
 unfold maxLen at ha
 have HB:=H_ (al_ w (Obj.cells #[.string a,.int .i64 m] 144))
 by_cases h:(a.size:Int)≤left
 ·rw [if_pos h]
  have g:¬left-(a.size:Int)<0:=by omega
  go_enter Tryz.func99,Tryz.ntmps99
  go_wp2_with fail
  go_ret
  exact ⟨rfl,HB.out⟩
 ·rw [if_neg h]
  have g:left-(a.size:Int)<0:=by omega
  go_enter Tryz.func99,Tryz.ntmps99
  go_wp2_with fail
  go_ret
  exact ⟨rfl,HB.out⟩
theorem small_moreC {cs:List Cr} {k:Nat} (h:∀i,i<k→(cs.getD i Cr.zero).a.size≤1048576) (hk:(cs.getD k Cr.zero).a.size≤1048576):∀i,i<k+1→(cs.getD i Cr.zero).a.size≤1048576:=fun i hi=>by
 by_cases e:i=k
 ·subst e;exact hk
 ·exact h i (by omega)
theorem szCrs_any (ao:Option Addr) (len cap:Nat) (cs:List Cr) (left:Int) (w:World) (hm:len≤maxLen) (h0:0≤left) (h1:left≤1048576) (hI:Crs ao len cs w) (hin:∀i,i<len→(cs.getD i Cr.zero).a.size≤maxLen) :
 Calls Tryz.prog 46 #[.slice ao len cap,.int .i64 left] w fun e w'=>SzOut left (len≤1048576∧∀i,i<len→(cs.getD i Cr.zero).a.size≤1048576) e∧Below w.heap.size w w':=by
 have HI:=H_ hI
 have HN:=H_ hin
 clear hI hin
 unfold maxLen at hm
 by_cases hl:left-(len:Int)<0
 ·go_enter Tryz.func46,Tryz.ntmps46
  go_wp2_with fail
  go_ret
  exact ⟨⟨-1,rfl,.inl rfl⟩,Below.refl _ _⟩
 ·go_enter Tryz.func46,Tryz.ntmps46
  go_wp2_with fail
  go_loopw [5,1] (fun x y wr=>∃(j:Nat) (L:Int),j≤len∧x=.int .i64 j∧y=.int .i64 L∧0≤L∧L≤left∧Hid (∀i,i<j→(cs.getD i Cr.zero).a.size≤1048576)∧Hid (Below w.heap.size w wr)) (fun x y _=>len-(intOf x).toNat)
  case atStart=>exact ⟨0,left-(len:Int),Nat.zero_le _,rfl,rfl,by omega,by omega,H_ (fun i hi=>absurd hi (by omega)),H_ (Below.refl _ _)⟩
  case round =>
   obtain ⟨j,L,hj,rfl,rfl,l0,l1,HL,HB⟩:=hrel
   by_cases hlt:j<len
   ·obtain ⟨b,off,rfl,hbl,c0,c1⟩:=crs_at (HI.out.below HB.out) j hlt
    have q1:=HN.out j hlt
    have HM:=H_ (fun h=>small_moreC HL.out (k:=j) h)
    generalize (cs.getD j Cr.zero)=X at *
    obtain ⟨a,m⟩:=X
    simp only at c0 c1 q1 HM
    have HC:=H_ (fun w=>szCr_any a m L q1 l0 (by omega) w)
    have hlt2:(j:Int)<(len:Int):=by omega
    clear q1
    by_cases hs:(a.size:Int)≤L
    ·rw [if_pos hs] at HC
     have r0:0≤L-(a.size:Int):=by omega
     have r1:L-(a.size:Int)≤left:=by omega
     have HN1:=H_ (HM.out (by omega))
     generalize L-(a.size:Int)=L2 at *
     clear hs
     go_wp2_with fail
     refine (HC.out _).mono ?_
     rintro e w1 ⟨rfl,hb⟩
     have HB1:=HT_ HB hb
     clear hb c0 c1
     have r2:¬L2<0:=by omega
     go_wp2_with fail
     go_roundw
     case rel=>exact ⟨j+1,L2,by omega,by go_num,rfl,r0,r1,HN1,HB1⟩
     case measure=>simp [intOf];omega
    ·rw [if_neg hs] at HC
     go_wp2_with fail
     refine (HC.out _).mono ?_
     rintro e w1 ⟨rfl,hb⟩
     have HB1:=HT_ HB hb
     clear hb c0 c1
     go_wp2_with fail
     go_ret
     exact ⟨⟨-1,rfl,.inl rfl⟩,HB1.out⟩
   ·obtain rfl:j=len:=by omega
    go_wp2_with fail
    go_ret
    exact ⟨⟨L,rfl,.inr ⟨l0,l1,by omega,HL.out⟩⟩,HB.out⟩
theorem toCr_any (u:ByteArray) (p:Int) (w:World):Calls Tryz.prog 116 #[.agg #[.string u,.int .i64 p]] w fun e w'=>e=.returned (.agg #[.string u,.int .i64 p])∧Below w.heap.size w w':=by
 go_enter Tryz.func116,Tryz.ntmps116
 go_wp2_with fail
 refine bodyPost_ret (v:=.agg #[.string u,.int .i64 p]) (by simp [results,Tryz.results116,go_sem]) rfl ⟨rfl,?_⟩
 repeat' first|exact Below.refl _ _|apply Below.setCell|apply Below.alloc
 all_goals first|omega|(simp;done)|(simp;omega)
theorem crs_set {wr:World} {g n k:Nat} {ts:List Cr} (hp:Pt g (n*2) wr) (hk:k<n) (ha:∀i,i<k→CrAt wr g (i*2) (ts.getD i Cr.zero)) :
 Pt g (n*2) ((wr.setCell ⟨g,k*2,none⟩ (.string (ts.getD k Cr.zero).a)).setCell ⟨g,k*2+1,none⟩ (.int .i64 (ts.getD k Cr.zero).m))∧∀i,i<k+1→CrAt ((wr.setCell ⟨g,k*2,none⟩ (.string (ts.getD k Cr.zero).a)).setCell ⟨g,k*2+1,none⟩ (.int .i64 (ts.getD k Cr.zero).m)) g (i*2) (ts.getD i Cr.zero):=by
 refine ⟨(hp.set _ _).set _ _,fun i hi=>?_⟩
 by_cases e:i=k
 ·subst e
  exact ⟨(cell_far _ _ (by omega) _).trans (cell_put hp _ (by omega) _),cell_put (hp.set _ _) _ (by omega) _⟩
 ·have h:=ha i (by omega)
  exact ⟨((cell_far _ _ (by omega) _).trans (cell_far _ _ (by omega) _)).trans h.1,((cell_far _ _ (by omega) _).trans (cell_far _ _ (by omega) _)).trans h.2⟩
theorem toCrs_any (ao:Option Addr) (len cap:Nat) (ts:List Cr) (w:World) (hlen:len≤1048576) (hI:Crs ao len ts w) :
 Calls Tryz.prog 65 #[.slice ao len cap] w fun e w'=>e=.returned (.slice (some ⟨w.heap.size,0,none⟩) len len)∧Crs (some ⟨w.heap.size,0,none⟩) len ts w'∧Pt w.heap.size (len*2) w'∧Below w.heap.size w w':=by
 obtain ⟨i0,hi,hz0,hz1,hz2⟩:=info_parts infoC
 have HI:=H_ hI
 clear hI
 go_enter Tryz.func65,Tryz.ntmps65
 go_wp2_with (at_make;refine wpList_make_full _ rfl _ _ 34 rfl w.heap.size 151 i0 (.agg #[.string ⟨#[]⟩,.int .i64 0]) 2 Tryz.underlying34 hi hz0 hz1 .i64 .i64 _ _ len rfl rfl rfl rfl ?b2 ?b3 ?b4 ?_)
 case b2=>rw [hz2];omega
 case b3=>unfold maxLen;omega
 case b4=>exact Nat.le_refl _
 intro wm hown hgrow
 have HP:=H_ (row_full hown)
 have HB:Hid (Below w.heap.size w wm):=H_ ((Below.refl _ _).grown hgrow (Nat.le_refl _) (fun k e=>by cases e))
 clear hown hgrow hi hz0 hz1 hz2
 go_wp2_with fail
 go_loopw [4] (fun z wr=>∃k:Nat,k≤len∧z=.int .i64 k∧Hid (Below w.heap.size w wr)∧Hid (Pt w.heap.size (len*2) wr)∧Hid (∀i,i<k→CrAt wr w.heap.size (i*2) (ts.getD i Cr.zero))) (fun z _=>len-(intOf z).toNat)
 case atStart=>exact ⟨0,by omega,rfl,HB,HP,H_ (fun i hi=>absurd hi (by omega))⟩
 case round =>
  obtain ⟨k,hk,rfl,HB,HP,HA⟩:=hrel
  by_cases hlt:k<len
  ·have hlt2:(k:Int)<(len:Int):=by omega
   obtain ⟨b,off,rfl,hbl,c0,c1⟩:=crs_at (HI.out.below HB.out) k hlt
   have HS:=H_ (fun W hp ha=>crs_set (wr:=W) (g:=w.heap.size) (n:=len) (k:=k) (ts:=ts) hp hlt ha)
   generalize (ts.getD k Cr.zero)=X at *
   obtain ⟨u,p⟩:=X
   have HC:=H_ (fun w=>toCr_any u p w)
   have HS:Hid (∀W,Pt w.heap.size (len*2) W→(∀i,i<k→CrAt W w.heap.size (i*2) (ts.getD i Cr.zero))→Pt w.heap.size (len*2) ((W.setCell ⟨w.heap.size,k*2,none⟩ (.string u)).setCell ⟨w.heap.size,k*2+1,none⟩ (.int .i64 p))∧∀i,i<k+1→CrAt ((W.setCell ⟨w.heap.size,k*2,none⟩ (.string u)).setCell ⟨w.heap.size,k*2+1,none⟩ (.int .i64 p)) w.heap.size (i*2) (ts.getD i Cr.zero)):=HS
   go_wp2_with fail
   refine (HC.out _).mono ?_
   rintro e w1 ⟨rfl,hb⟩
   have HP1:=H_ (HP.out.below hb)
   have HA1:Hid (∀i,i<k→CrAt w1 w.heap.size (i*2) (ts.getD i Cr.zero)):=H_ (fun i hi=>(HA.out i hi).below HP.out.lt hb)
   have HB1:=HT_ HB hb
   have HS1:=H_ (HS.out _ HP1.out HA1.out)
   obtain ⟨v0,d0⟩:=HP1.out.has (k*2) (by omega)
   obtain ⟨v1,d1⟩:=HP1.out.has (k*2+1) (by omega)
   have z0:=HP1.out.free (k*2) (by omega)
   have z1:=HP1.out.free (k*2+1) (by omega)
   clear hb c0 c1
   go_wp2_with fail
   go_roundw
   case rel=>exact ⟨k+1,by omega,by go_num,H_ ((HB1.out.setCell (Nat.le_refl _) _).setCell (Nat.le_refl _) _),H_ HS1.out.1,H_ HS1.out.2⟩
   case measure=>simp [intOf];omega
  ·have hlt2:¬(k:Int)<(len:Int):=by omega
   obtain rfl:k=len:=by omega
   go_wp2_with fail
   go_ret
   exact ⟨rfl,⟨HI.out.1,.inr ⟨w.heap.size,0,rfl,HP.out.lt,fun j hj=>by rw [Nat.zero_add];exact HA.out j hj⟩⟩,HP.out,HB.out⟩
theorem eqCr_any (u:ByteArray) (p:Int) (w:World):Calls Tryz.prog 141 #[.agg #[.string u,.int .i64 p],.agg #[.string u,.int .i64 p]] w fun e w'=>e=.returned (.bool true)∧Below w.heap.size w w':=by
 go_enter Tryz.func141,Tryz.ntmps141
 go_wp2
 go_ret
 refine ⟨rfl,?_⟩
 repeat' first|exact Below.refl _ _|apply Below.setCell|apply Below.alloc
 all_goals first|omega|(simp;done)|(simp;omega)
theorem eqCrs_any (ao bo:Option Addr) (len cap cap':Nat) (ts:List Cr) (w:World) (hlen:len≤1048576) (hI:Crs ao len ts w) (hJ:Crs bo len ts w) :
 Calls Tryz.prog 83 #[.slice ao len cap,.slice bo len cap'] w fun e w'=>e=.returned (.bool true)∧Below w.heap.size w w':=by
 have HI:=H_ hI
 have HJ:=H_ hJ
 clear hI hJ
 go_enter Tryz.func83,Tryz.ntmps83
 go_wp2_with fail
 go_loopw [5] (fun z wr=>∃k:Nat,k≤len∧z=.int .i64 k∧Hid (Below w.heap.size w wr)) (fun z _=>len-(intOf z).toNat)
 case atStart=>exact ⟨0,by omega,rfl,H_ (Below.refl _ _)⟩
 case round =>
  obtain ⟨k,hk,rfl,HW⟩:=hrel
  by_cases hlt:k<len
  ·have hlt2:(k:Int)<(len:Int):=by omega
   obtain ⟨b,off,rfl,_,c0,c1⟩:=crs_at (HI.out.below HW.out) k hlt
   obtain ⟨b',off',rfl,_,e0,e1⟩:=crs_at (HJ.out.below HW.out) k hlt
   generalize ts.getD k Cr.zero=X at *
   obtain ⟨u,p⟩:=X
   have HC:=H_ (fun w=>eqCr_any u p w)
   go_wp2_with fail
   go_region_with (go_at_call 141;refine (HC.out _).mono ?_;rintro e w1 ⟨rfl,hb⟩)
   all_goals (
    have HB1:=H_ (HW.out.drew.trans (hb.mono HW.out.drew.size))
    clear hb c0 c1 e0 e1
    go_wp2_with fail
    go_roundw
    case rel=>exact ⟨k+1,by omega,by go_num,HB1⟩
    case measure=>simp [intOf];omega)
  ·have hlt2:¬(k:Int)<(len:Int):=by omega
   go_wp2_with fail
   go_ret
   exact ⟨rfl,HW.out⟩
end CatR
end Go.Proofs.YtnceeaccbcfopaaGreatDoor
namespace Go.Proofs.YtnceeaccbcfopaaGreatDoor
open Go.ChangeShapes Go.WideShapes Go.ChangeAt Go.RowKit Go.Deep
set_option linter.unusedVariables false
namespace SeenR
def IsEns (w:World) (a:Option Addr) (es:List N):Prop:=es.length≤maxLen∧Ens a es w∧∀e∈es,e.i.size≤maxLen
section
variable {H:Type} {enc:TypeId × Value→H} {P:Program} {w:World} {base:Nat} {spare:Nat→Bool} {held:Bool}
theorem list3 {α:Type} {cs:List α} (h:cs.length=3):∃c0 c1 c2,cs=[c0,c1,c2]:=by
 match cs,h with
 | [c0,c1,c2],_=>exact ⟨c0,c1,c2,rfl⟩
theorem entry_cells {t:TypeId} {f0 f1 f2:Field} {fuel:Nat} {cs:List Value} {x:DataW H × List MemPlace} (hs:P.underlying t=some (.struct #[f0,f1,f2])) (hone:oneCellFields P #[f0,f1,f2]=true) (hC:P.cellsOf t=3)
 (u0:P.underlying f0.type=some .string) (u1:P.underlying f1.type=some (.int .i64)) (u2:P.underlying f2.type=some (.int .i64))
 (h:DataW.trod enc P w base spare held fuel t cs=some x) :
 ∃(i:ByteArray) (n s:Int),cs=[.string i,.int .i64 n,.int .i64 s]∧i.size≤maxLen:=by
 obtain ⟨xs,n,_,_,hl,hlen,hf⟩:=DataW.trod_struct hs h
 obtain ⟨c0,c1,c2,rfl⟩:=list3 (hl.trans hC)
 obtain ⟨y0,y1,y2,rfl⟩:=list3 (show xs.length=3 from hlen)
 obtain ⟨o0,k0⟩:=hone_of hone 0 f0 rfl
 obtain ⟨o1,k1⟩:=hone_of hone 1 f1 rfl
 obtain ⟨o2,k2⟩:=hone_of hone 2 f2 rfl
 have h0:=hf 0 f0 rfl
 have h1:=hf 1 f1 rfl
 have h2:=hf 2 f2 rfl
 simp [o0,k0] at h0
 simp [o1,k1] at h1
 simp [o2,k2] at h2
 obtain ⟨i,e0,_,s0⟩:=DataW.trod_string u0 h0
 obtain ⟨p,e1,_,s1⟩:=DataW.trod_int u1 h1
 obtain ⟨q,e2,_,s2⟩:=DataW.trod_int u2 h2
 simp only [List.cons.injEq,and_true] at e0 e1 e2
 subst e0 e1 e2
 exact ⟨i,p,q,rfl,s0⟩
theorem cells_at {a:Addr} {cs:List Value} {n:Nat} (h:w.cells? base a n=some cs) (j:Nat) (hj:j<n):w.cell? (a.add j)=cs[j]?:=by
 obtain ⟨_,h1,h2⟩:=World.cells?_some h
 exact h2 j hj
theorem ens_open {t e:TypeId} {f0 f1 f2:Field} {fuel:Nat} {ao:Option Addr} {len cap:Nat} {x:DataW H × List MemPlace} (ht:P.underlying t=some (.slice e)) (hs:P.underlying e=some (.struct #[f0,f1,f2])) (hone:oneCellFields P #[f0,f1,f2]=true) (hC:P.cellsOf e=3)
 (u0:P.underlying f0.type=some .string) (u1:P.underlying f1.type=some (.int .i64)) (u2:P.underlying f2.type=some (.int .i64))
 (h:DataW.trod enc P w base spare held fuel t [.slice ao len cap]=some x):∃es,es.length=len∧IsEns w ao es:=by
 rcases DataW.trod_slice ht h with ⟨hcs,_⟩|⟨a,len',cap',elems,rest,n,_,hcs,_,hb,hl,hm,hlen,hel,_,_⟩
 ·simp only [List.cons.injEq,Value.slice.injEq,and_true] at hcs
  obtain ⟨rfl,rfl,rfl⟩:=hcs
  exact ⟨[],rfl,Nat.zero_le _,.inl rfl,fun e he=>by cases he⟩
 ·simp only [List.cons.injEq,Value.slice.injEq,and_true] at hcs
  obtain ⟨rfl,rfl,rfl⟩:=hcs
  have key:∀i,i<len→∃E1:N,E1.i.size≤maxLen∧w.cells? base (a.add (i*3)) 3=some E1.cells:=by
   intro i hi
   have h1:=hel i hi
   rw [hC,List.getElem?_eq_getElem (by omega)] at h1
   cases hc:w.cells? base (a.add (i*3)) 3 with
   | none=>rw [hc] at h1;simp at h1
   | some cs =>
    rw [hc] at h1
    simp only [Option.bind_some] at h1
    obtain ⟨i',n',s',rfl,q0⟩:=entry_cells hs hone hC u0 u1 u2 h1
    exact ⟨⟨i',n',s'⟩,q0,rfl⟩
  have:∃f:Nat→N,∀i,i<len→(f i).i.size≤maxLen∧w.cells? base (a.add (i*3)) 3=some (f i).cells:=by
   refine ⟨fun i=>if hi:i<len then Classical.choose (key i hi) else N.zero,fun i hi=>?_⟩
   simp only [hi,dif_pos]
   exact Classical.choose_spec (key i hi)
  obtain ⟨f,hf⟩:=this
  refine ⟨(List.range len).map f,by simp,by simp;omega,?_,fun e he=>?_⟩
  ·by_cases h0:len=0
   ·exact .inl (by simpa using h0)
   ·obtain ⟨b,off,spot⟩:=a
    have hc0:=cells_at (hf 0 (by omega)).2 0 (by omega)
    have hspot:spot=none:=by
     have:w.cell? ⟨b,off,spot⟩=some (.string (f 0).i):=by simpa [Addr.add,N.cells] using hc0
     exact World.cell?_spot this
    subst hspot
    refine .inr ⟨b,off,rfl,?_,fun j hj=>?_⟩
    ·have:w.cell? ⟨b,off,none⟩=some (.string (f 0).i):=by simpa [Addr.add,N.cells] using hc0
     exact World.block_lt_of_cell? w _ this
    ·have hj:j<len:=by simpa using hj
     have e:((List.range len).map f).getD j N.zero=f j:=by simp [List.getD,hj]
     rw [e]
     have g:=fun k (hk:k<3)=>cells_at (hf j hj).2 k hk
     have ad:∀k,((⟨b,off,none⟩:Addr).add (j*3)).add k=⟨b,off+j*3+k,none⟩:=by
      intro k
      unfold Addr.add
      split<;>split<;>simp_all
     simp only [ad] at g
     exact fun i hi=>g i hi
  ·simp only [List.mem_map,List.mem_range] at he
   obtain ⟨i,hi,rfl⟩:=he
   exact (hf i hi).1
end
end SeenR
end Go.Proofs.YtnceeaccbcfopaaGreatDoor
namespace Go.Proofs.YtnceeaccbcfopaaGreatDoor
open Go.ChangeShapes Go.WideShapes Go.ChangeAt Go.RowKit
set_option linter.unusedVariables false
namespace LinR
open RowG
open EvtR (Pt)
structure N where
 i:ByteArray
 n:Int
def N.v (e:N):Value:=.agg #[.string e.i,.int .i64 e.n]
def N.zero:N:=⟨⟨#[]⟩,0⟩
def N.cells (e:N):List Value:=[.string e.i,.int .i64 e.n]
theorem N.len (e:N):e.cells.length=2:=rfl
def Lis (ao:Option Addr) (es:List N) (w:World):Prop:=Rws 2 N.cells N.zero ao es w
theorem Lis.below {ao:Option Addr} {es:List N} {w w':World} (h:Lis ao es w) (hb:Below w.heap.size w w'):Lis ao es w':=Rws.below h hb
theorem Lis.at {ao:Option Addr} {es:List N} {w:World} (h:Lis ao es w) (j:Nat) (hj:j<es.length):∃b off,ao=some ⟨b,off,none⟩∧b<w.heap.size∧w.cell? ⟨b,off+j*2,none⟩=some (.string (es.getD j N.zero).i)∧w.cell? ⟨b,off+j*2+1,none⟩=some (.int .i64 (es.getD j N.zero).n):=by
 obtain ⟨b,off,h1,h2,h3⟩:=Rws.at h j hj
 exact ⟨b,off,h1,h2,h3 0 (by omega),h3 1 (by omega)⟩
def szL (es:List N):Int:=(es.map (fun e=>(e.i.size:Int))).sum
theorem szL_nn (es:List N):0≤szL es:=by
 unfold szL
 induction es with
 | nil=>simp
 | cons e es ih=>simp only [List.map_cons,List.sum_cons];omega
theorem szL_take (es:List N) (k:Nat) (h:k<es.length):szL (es.take (k+1))=szL (es.take k)+((es.getD k N.zero).i.size:Int):=by
 unfold szL
 rw [take_more (z:=N.zero) es k h,List.map_append,List.sum_append]
 simp
theorem szL_le (es:List N) (k:Nat):szL (es.take k)≤szL es:=by
 have:=szL_nn (es.drop k)
 have e:szL es=szL (es.take k)+szL (es.drop k):=by
  unfold szL
  rw [←List.sum_append,←List.map_append,List.take_append_drop]
 omega
theorem sz_any (i:ByteArray) (n left:Int) (h1:i.size≤maxLen) (hl:0≤left) (hl2:left≤1048576) (w:World) :
 Calls Tryz.prog 150 #[.agg #[.string i,.int .i64 n],.int .i64 left] w fun e w'=>e=.returned (.int .i64 (if (i.size:Int)≤left then left-(i.size:Int) else -1))∧Below w.heap.size w w':=by
 unfold maxLen at *
 have HB:=H_ (al_ w (Obj.cells #[.string i,.int .i64 n] 212))
 rcases (show (left-(i.size:Int)<0)∨(¬left-(i.size:Int)<0) by omega) with q1|q1
 all_goals
  go_enter Tryz.func150,Tryz.ntmps150
  go_wp2_with fail
  go_ret
  refine ⟨ret_int ?_,HB.out⟩
  first|rfl|omega|(rw [if_neg (by omega)];done)|(rw [if_pos (by omega)];done)
theorem infoN:(Tryz.prog.info? 209).map (fun i=>(i.zero,i.size,i.bytes))=some (some (.agg #[.string ⟨#[]⟩,.int .i64 0]),2,24):=by kernel_rfl
theorem row_fullL {w:World} {base e g n s:Nat} {xs:List Value} (h:w.ownsRow base e s (.slice (some ⟨g,0,none⟩) n n) n xs):Pt g (n*s) w:=by
 rcases h.2 with ⟨h1,_⟩|⟨g',cap,cur,h1,_,hg,_,_,hs,_⟩
 ·simp at h1
 ·simp at h1
  obtain ⟨rfl,rfl⟩:=h1
  refine ⟨(Array.getElem?_eq_some_iff.1 hg).1,fun o ho=>⟨cur[o]'(by omega),?_⟩,fun o ho=>?_⟩
  ·have:o<cur.size:=by omega
   simp [World.cell?,hg,this]
  ·simp [World.frozen?,hg]
theorem toLine_any (i:ByteArray) (n:Int) (w:World) :
 Calls Tryz.prog 161 #[.agg #[.string i,.int .i64 n]] w fun e w'=>e=.returned (.agg #[.string i,.int .i64 n])∧Below w.heap.size w w':=by
 go_enter Tryz.func161,Tryz.ntmps161
 go_wp2_with fail
 refine bodyPost_ret (v:=.agg #[.string i,.int .i64 n]) (by simp [results,Tryz.results161,go_sem]) rfl ⟨rfl,?_⟩
 repeat' first|exact Below.refl _ _|apply Below.setCell|apply Below.alloc
 all_goals first|omega|(simp;done)|(simp;omega)
theorem fill_step {f:Nat→Option Value} {w wr:World} {m j:Nat} (hb:Below w.heap.size w wr) (hp:Pt w.heap.size m wr) (hw:Wr f j w.heap.size wr) (hj:j<m) (v:Value) (hv:f j=some v) :
 Below w.heap.size w (wr.setCell ⟨w.heap.size,j,none⟩ v)∧Pt w.heap.size m (wr.setCell ⟨w.heap.size,j,none⟩ v)∧Wr f (j+1) w.heap.size (wr.setCell ⟨w.heap.size,j,none⟩ v) :=
 ⟨hb.setCell (Nat.le_refl _) _,hp.set _ _,hw.more hp hj v hv⟩
theorem toLis_any (ao:Option Addr) (cap:Nat) (es:List N) (w:World) (hlen:es.length≤1048576) (hI:Lis ao es w) :
 Calls Tryz.prog 119 #[.slice ao es.length cap] w fun e w'=>e=.returned (.slice (some ⟨w.heap.size,0,none⟩) es.length es.length)∧Lis (some ⟨w.heap.size,0,none⟩) es w'∧Pt w.heap.size (es.length*2) w'∧Below w.heap.size w w':=by
 obtain ⟨i0,hi,hz0,hz1,hz2⟩:=info_parts infoN
 have HI:=H_ hI
 have HWS:Hid (∀wr,Wr (cellAt 2 N.cells N.zero es) (es.length*2) w.heap.size wr→w.heap.size<wr.heap.size→Lis (some ⟨w.heap.size,0,none⟩) es wr):=H_ (fun wr h hl=>Wr.rws h hl)
 have HZ:Hid (∀k,k<es.length→True):=H_ (fun _ _=>trivial)
 obtain ⟨len,hl⟩:∃len,len=es.length:=⟨_,rfl⟩
 rw [←hl] at hlen HWS ⊢
 have HL:=H_ hl
 clear hI hl
 go_enter Tryz.func119,Tryz.ntmps119
 go_wp2_with (at_make;refine wpList_make_full _ rfl _ _ 120 rfl w.heap.size 209 i0 (.agg #[.string ⟨#[]⟩,.int .i64 0]) 2 Tryz.underlying120 hi hz0 hz1 .i64 .i64 _ _ len rfl rfl rfl rfl ?b2 ?b3 ?b4 ?_)
 case b2=>rw [hz2];omega
 case b3=>unfold maxLen;omega
 case b4=>exact Nat.le_refl _
 intro wm hown hgrow
 have HB0:Hid (Below w.heap.size w wm):=H_ ((Below.refl _ _).grown hgrow (Nat.le_refl _) (fun k e=>by cases e))
 have HP0:=H_ (row_fullL hown)
 clear hown hgrow hi hz0 hz1 hz2
 go_wp2_with fail
 go_loopw [4] (fun z wr=>∃k:Nat,k≤len∧z=.int .i64 k∧Hid (Below w.heap.size w wr)∧Hid (Pt w.heap.size (len*2) wr)∧Hid (Wr (cellAt 2 N.cells N.zero es) (k*2) w.heap.size wr)) (fun z _=>len-(intOf z).toNat)
 case atStart=>exact ⟨0,by omega,rfl,HB0,HP0,H_ (fun o ho=>absurd ho (by omega))⟩
 case round =>
  obtain ⟨k,hk,rfl,HB,HP,HW⟩:=hrel
  by_cases hlt:k<len
  ·have hlt2:(k:Int)<(len:Int):=by omega
   obtain ⟨b,off,rfl,hbl,c0,c1⟩:=(HI.out.below HB.out).at k (by have:=HL.out;omega)
   have HX:=H_ (cellAt_of (k:=2) (cells:=N.cells) (z:=N.zero) (xs:=es) k)
   generalize es.getD k N.zero=X at *
   obtain ⟨xi,xn⟩:=X
   have HC:=H_ (fun w=>toLine_any xi xn w)
   go_wp2_with fail
   refine (HC.out _).mono ?_
   rintro e w1 ⟨rfl,hb⟩
   replace HW:=H_ (HW.out.below HP.out hb)
   replace HP:=H_ (HP.out.below hb)
   replace HB:=HT_ HB hb
   have HS0:=H_ (fill_step HB.out HP.out HW.out (by omega) (.string xi) (HX.out 0 (by omega)))
   have HS1:=H_ (fill_step HS0.out.1 HS0.out.2.1 HS0.out.2.2 (by omega) (.int .i64 xn) (HX.out 1 (by omega)))
   obtain ⟨v0,d0⟩:=HP.out.has (k*2) (by omega)
   obtain ⟨v1,d1⟩:=HP.out.has (k*2+1) (by omega)
   have z0:=HP.out.free (k*2) (by omega)
   have z1:=HP.out.free (k*2+1) (by omega)
   clear hb c0 c1 HX HS0
   go_wp2_with fail
   go_roundw
   case rel=>exact ⟨k+1,by omega,by go_num,H_ HS1.out.1,H_ HS1.out.2.1,H_ (by rw [show (k+1)*2=k*2+1+1 by omega];exact HS1.out.2.2)⟩
   case measure=>simp [intOf];omega
  ·have hlt2:¬(k:Int)<(len:Int):=by omega
   obtain rfl:k=len:=by omega
   go_wp2_with fail
   go_ret
   exact ⟨rfl,HWS.out _ HW.out HP.out.lt,HP.out,HB.out⟩
theorem eqLine_any (i:ByteArray) (n:Int) (w:World):Calls Tryz.prog 187 #[.agg #[.string i,.int .i64 n],.agg #[.string i,.int .i64 n]] w fun e w'=>e=.returned (.bool true)∧Below w.heap.size w w':=by
 go_enter Tryz.func187,Tryz.ntmps187
 go_wp2
 go_ret
 refine ⟨rfl,?_⟩
 repeat' first|exact Below.refl _ _|apply Below.setCell|apply Below.alloc
 all_goals first|omega|(simp;done)|(simp;omega)
theorem eqLis_any (ao bo:Option Addr) (cap cap':Nat) (es:List N) (w:World) (hlen:es.length≤1048576) (hI:Lis ao es w) (hJ:Lis bo es w) :
 Calls Tryz.prog 139 #[.slice ao es.length cap,.slice bo es.length cap'] w fun e w'=>e=.returned (.bool true)∧Below w.heap.size w w':=by
 have HI:=H_ hI
 have HJ:=H_ hJ
 obtain ⟨len,hl⟩:∃len,len=es.length:=⟨_,rfl⟩
 rw [←hl] at hlen ⊢
 have HL:=H_ hl
 clear hI hJ hl
 go_enter Tryz.func139,Tryz.ntmps139
 go_wp2_with fail
 go_loopw [5] (fun z wr=>∃k:Nat,k≤len∧z=.int .i64 k∧Hid (Below w.heap.size w wr)) (fun z _=>len-(intOf z).toNat)
 case atStart=>exact ⟨0,by omega,rfl,H_ (Below.refl _ _)⟩
 case round =>
  obtain ⟨k,hk,rfl,HW⟩:=hrel
  by_cases hlt:k<len
  ·have hlt2:(k:Int)<(len:Int):=by omega
   obtain ⟨b,off,rfl,_,c0,c1⟩:=(HI.out.below HW.out).at k (by have:=HL.out;omega)
   obtain ⟨b',off',rfl,_,e0,e1⟩:=(HJ.out.below HW.out).at k (by have:=HL.out;omega)
   generalize es.getD k N.zero=X at *
   obtain ⟨xi,xn⟩:=X
   have HC:=H_ (fun w=>eqLine_any xi xn w)
   go_wp2_with fail
   go_region_with (go_at_call 187;refine (HC.out _).mono ?_;rintro e w1 ⟨rfl,hb⟩)
   all_goals (
    have HB1:=H_ (HW.out.drew.trans (hb.mono HW.out.drew.size))
    clear hb c0 c1 e0 e1
    go_wp2_with fail
    go_roundw
    case rel=>exact ⟨k+1,by omega,by go_num,HB1⟩
    case measure=>simp [intOf];omega)
  ·have hlt2:¬(k:Int)<(len:Int):=by omega
   go_wp2_with fail
   go_ret
   exact ⟨rfl,HW.out⟩
end LinR
end Go.Proofs.YtnceeaccbcfopaaGreatDoor
