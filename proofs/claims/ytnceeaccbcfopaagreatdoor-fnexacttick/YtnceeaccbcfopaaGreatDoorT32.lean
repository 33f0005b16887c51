/-
  Windows that the law is given: the law's own copies, and windows held against each other. The condition: at most 1048576 of each.
-/
import Derived.Test.YtnceeaccbcfopaaGreatDoorT31
namespace Go.Proofs.YtnceeaccbcfopaaGreatDoor
open Go.ChangeShapes Go.WideShapes Go.ChangeAt Go.RowKit
set_option linter.unusedVariables false
namespace WinR
open RowG
open EvtR (Pt)
open CatR (Blk Blk.new)
def BlkW (b:Nat) (cs:List Value) (w:World):Prop:=Blk b cs w∧∀i,i<cs.length→w.frozen? ⟨b,i,none⟩=false
theorem BlkW.below {b:Nat} {cs:List Value} {w w':World} (h:BlkW b cs w) (hb:Below w.heap.size w w'):BlkW b cs w' :=
 ⟨h.1.below hb,fun i hi=>(hb.frozen (p:=⟨b,i,none⟩) h.1.1).trans (h.2 i hi)⟩
theorem BlkW.new (w:World) (cs:List Value) (T:TypeId):BlkW w.heap.size cs (w.alloc (.cells cs.toArray T)) :=
 ⟨Blk.new w cs T,fun i hi=>by simp [go_sem]⟩
theorem BlkW.set {b:Nat} {cs:List Value} {w:World} (h:BlkW b cs w) (o:Nat) (v:Value) (ho:o<cs.length):BlkW b (cs.set o v) (w.setCell ⟨b,o,none⟩ v):=by
 obtain ⟨⟨hl,hc⟩,hf⟩:=h
 refine ⟨⟨by simpa using hl,fun i hi=>?_⟩,fun i hi=>?_⟩
 ·rw [List.length_set] at hi
  by_cases e:o=i
  ·subst e
   have:=hc o hi
   rw [List.getElem?_eq_getElem hi] at this
   rw [List.getElem?_set_self ho]
   simp [go_sem,this]
  ·rw [List.getElem?_set_ne e,←hc i hi]
   simp [go_sem]
 ·rw [List.length_set] at hi
  have:=hf i hi
  simp [go_sem,this]
theorem BlkW.other {b:Nat} {cs:List Value} {w:World} (h:BlkW b cs w) (g o:Nat) (v:Value) (hg:g≠b):BlkW b cs (w.setCell ⟨g,o,none⟩ v):=by
 have e:=(grown_set w g o v).block b h.1.1 (by simp;exact fun q=>hg q.symm)
 exact ⟨⟨by simpa using h.1.1,fun i hi=>(World.cell?_of_block (a:=⟨b,i,none⟩) e).trans (h.1.2 i hi)⟩,fun i hi=>(World.frozen?_of_block (a:=⟨b,i,none⟩) e).trans (h.2 i hi)⟩
theorem Rws.put {α:Type} {k:Nat} {cells:α→List Value} {z:α} {ao:Option Addr} {xs:List α} {w:World} (h:Rws k cells z ao xs w) (g o:Nat) (v:Value) (hne:xs.length=0∨∀b off,ao=some ⟨b,off,none⟩→b≠g):Rws k cells z ao xs (w.setCell ⟨g,o,none⟩ v) :=
 h.grown (grown_set w g o v) (hne.imp id (fun hn b off e q=>hn b off e (by simpa using q)))
theorem MadeG.put {α:Type} {k:Nat} {cells:α→List Value} {z:α} {base:Nat} {ao:Option Addr} {xs:List α} {w:World} (h:MadeG k cells z base ao xs w) (g o:Nat) (v:Value) (hne:xs.length=0∨∀b off,ao=some ⟨b,off,none⟩→b≠g):MadeG k cells z base ao xs (w.setCell ⟨g,o,none⟩ v):=by
 refine ⟨Rws.put h.rws g o v hne,?_⟩
 rcases h.own with h0|⟨b,e1,e2,e3⟩
 ·exact .inl h0
 ·rcases hne with h0|hn
  ·exact .inl h0
  have e:=(grown_set w g o v).block b e3.lt (by simp;exact fun q=>hn b 0 e1 q)
  exact .inr ⟨b,e1,e2,by simpa using e3.lt,fun x hx=>by obtain ⟨u,hu⟩:=e3.has x hx;exact ⟨u,(World.cell?_of_block (a:=⟨b,x,none⟩) e).trans hu⟩,fun x hx=>(World.frozen?_of_block (a:=⟨b,x,none⟩) e).trans (e3.free x hx)⟩
def Apart (ta ha:Option Addr) (tl hl:Nat):Prop:=tl=0∨hl=0∨∀b o b' o',ta=some ⟨b,o,none⟩→ha=some ⟨b',o',none⟩→b≠b'
def MadeW (base:Nat) (x:Wd) (v:Value) (w:World):Prop:=∃ta tc ha hc,v=.agg (wcells x ta tc ha hc)∧MadeG 1 tcells tz base ta x.ts w∧MadeG 2 H.cells H.zero base ha x.hs w∧Apart ta ha x.ts.length x.hs.length
theorem MadeW.below {base:Nat} {x:Wd} {v:Value} {w w':World} (h:MadeW base x v w) (hb:Below w.heap.size w w'):MadeW base x v w':=by
 obtain ⟨ta,tc,ha,hc,hv,h1,h2,h3⟩:=h
 exact ⟨ta,tc,ha,hc,hv,h1.below hb,h2.below hb,h3⟩
theorem MadeW.low {base base':Nat} {x:Wd} {v:Value} {w:World} (h:MadeW base x v w) (hb:base'≤base):MadeW base' x v w:=by
 obtain ⟨ta,tc,ha,hc,hv,h1,h2,h3⟩:=h
 exact ⟨ta,tc,ha,hc,hv,h1.low hb,h2.low hb,h3⟩
theorem MadeW.is {base:Nat} {x:Wd} {v:Value} {w:World} (h:MadeW base x v w):IsWd v x w:=by
 obtain ⟨ta,tc,ha,hc,hv,h1,h2,h3⟩:=h
 exact ⟨ta,tc,ha,hc,hv,h1.rws,h2.rws⟩
set_option maxRecDepth 100000 in
set_option maxHeartbeats 8000000 in
theorem toW_in (a m:ByteArray) (mo ev su mx:Int) (ta:Option Addr) (ts:List ByteArray) (tc:Nat) (ha:Option Addr) (hs:List H) (hc:Nat) (w:World) (ht:ts.length≤1048576) (hh:hs.length≤1048576) (hT:Tgs ta ts w) (hH:Hrs ha hs w) :
 Calls Tryz.prog 68 #[.agg #[.string a,.string m,.int .i64 mo,.int .i64 ev,.int .i64 su,.int .i64 mx,.slice ta ts.length tc,.slice ha hs.length hc]] w fun e w'=>∃v,e=.returned v∧MadeW w.heap.size ⟨a,m,mo,ev,su,mx,ts,hs⟩ v w'∧Below w.heap.size w w':=by
 have H1:=H_ (fun W (hW:Below w.heap.size w W)=>toTs_any ta tc ts W ht (hT.below hW))
 have H2:=H_ (fun W (hW:Below w.heap.size w W)=>toHs_any ha hc hs W hh (hH.below hW))
 have HF:Hid (∀W g1 g2,w.heap.size≤g1→w.heap.size≤g2→g1≠g2→MadeG 1 tcells tz g1 (some ⟨g1,0,none⟩) ts W→MadeG 2 H.cells H.zero g2 (some ⟨g2,0,none⟩) hs W→MadeW w.heap.size ⟨a,m,mo,ev,su,mx,ts,hs⟩ (.agg #[.string a,.string m,.int .i64 mo,.int .i64 ev,.int .i64 su,.int .i64 mx,.slice (some ⟨g1,0,none⟩) ts.length ts.length,.slice (some ⟨g2,0,none⟩) hs.length hs.length]) W):=H_ (fun W g1 g2 l1 l2 hn m1 m2 =>
  ⟨_,_,_,_,rfl,m1.low l1,m2.low l2,.inr (.inr (fun b o b' o' e1 e2=>by simp at e1 e2;omega))⟩)
 generalize MadeW w.heap.size ⟨a,m,mo,ev,su,mx,ts,hs⟩=M at *
 obtain ⟨tl,htl⟩:∃tl,tl=ts.length:=⟨_,rfl⟩
 obtain ⟨hl,hhl⟩:∃hl,hl=hs.length:=⟨_,rfl⟩
 have HTL:=H_ htl
 have HHL:=H_ hhl
 rw [←htl] at ht H1 HF ⊢
 rw [←hhl] at hh H2 HF ⊢
 clear hT hH htl hhl
 have HB0:Hid (Below w.heap.size w (((w.alloc (.cells #[.string a,.string m,.int .i64 mo,.int .i64 ev,.int .i64 su,.int .i64 mx,.slice ta tl tc,.slice ha hl hc] 95)).alloc (.cells #[.string ⟨#[]⟩,.string ⟨#[]⟩,.int .i64 0,.int .i64 0,.int .i64 0,.int .i64 0,.slice none 0 0,.slice none 0 0] 106)).alloc (.cells #[.string a,.string m,.int .i64 mo,.int .i64 ev,.int .i64 su,.int .i64 mx,.slice none 0 0,.slice none 0 0] 106))):=H_ ((((Below.refl _ _).alloc (Nat.le_refl _) _).alloc (by simp) _).alloc (by simp;omega) _)
 have HX0:=H_ (((BlkW.new w [.string a,.string m,.int .i64 mo,.int .i64 ev,.int .i64 su,.int .i64 mx,.slice ta tl tc,.slice ha hl hc] 95).below ((Below.refl _ _).alloc (Nat.le_refl _) (Obj.cells #[.string ⟨#[]⟩,.string ⟨#[]⟩,.int .i64 0,.int .i64 0,.int .i64 0,.int .i64 0,.slice none 0 0,.slice none 0 0] 106))).below ((Below.refl _ _).alloc (Nat.le_refl _) (Obj.cells #[.string a,.string m,.int .i64 mo,.int .i64 ev,.int .i64 su,.int .i64 mx,.slice none 0 0,.slice none 0 0] 106)))
 have HY0:=H_ ((BlkW.new (w.alloc (.cells #[.string a,.string m,.int .i64 mo,.int .i64 ev,.int .i64 su,.int .i64 mx,.slice ta tl tc,.slice ha hl hc] 95)) [.string ⟨#[]⟩,.string ⟨#[]⟩,.int .i64 0,.int .i64 0,.int .i64 0,.int .i64 0,.slice none 0 0,.slice none 0 0] 106).below ((Below.refl _ _).alloc (Nat.le_refl _) (Obj.cells #[.string a,.string m,.int .i64 mo,.int .i64 ev,.int .i64 su,.int .i64 mx,.slice none 0 0,.slice none 0 0] 106)))
 have HZ0:=H_ (BlkW.new ((w.alloc (.cells #[.string a,.string m,.int .i64 mo,.int .i64 ev,.int .i64 su,.int .i64 mx,.slice ta tl tc,.slice ha hl hc] 95)).alloc (.cells #[.string ⟨#[]⟩,.string ⟨#[]⟩,.int .i64 0,.int .i64 0,.int .i64 0,.int .i64 0,.slice none 0 0,.slice none 0 0] 106)) [.string a,.string m,.int .i64 mo,.int .i64 ev,.int .i64 su,.int .i64 mx,.slice none 0 0,.slice none 0 0] 106)
 have e1:(w.alloc (.cells #[.string a,.string m,.int .i64 mo,.int .i64 ev,.int .i64 su,.int .i64 mx,.slice ta tl tc,.slice ha hl hc] 95)).heap.size=w.heap.size+1:=by simp
 have e2:((w.alloc (.cells #[.string a,.string m,.int .i64 mo,.int .i64 ev,.int .i64 su,.int .i64 mx,.slice ta tl tc,.slice ha hl hc] 95)).alloc (.cells #[.string ⟨#[]⟩,.string ⟨#[]⟩,.int .i64 0,.int .i64 0,.int .i64 0,.int .i64 0,.slice none 0 0,.slice none 0 0] 106)).heap.size=w.heap.size+1+1:=by simp
 rw [e1] at HY0
 rw [e2] at HZ0
 clear e1 e2
 go_enter Tryz.func68,Tryz.ntmps68
 go_wp2_with fail
 refine (H1.out _ HB0.out).mono ?_
 rintro e w1 ⟨rfl,hT1,hP1,hb1⟩
 have HM1:=H_ (show MadeG 1 tcells tz _ _ ts w1 from ⟨hT1,.inr ⟨_,rfl,Nat.le_refl _,by rw [Nat.mul_one];exact HTL.out ▸ hP1⟩⟩)
 obtain ⟨g1,hg1⟩:∃g1,g1=(((w.alloc (.cells #[.string a,.string m,.int .i64 mo,.int .i64 ev,.int .i64 su,.int .i64 mx,.slice ta tl tc,.slice ha hl hc] 95)).alloc (.cells #[.string ⟨#[]⟩,.string ⟨#[]⟩,.int .i64 0,.int .i64 0,.int .i64 0,.int .i64 0,.slice none 0 0,.slice none 0 0] 106)).alloc (.cells #[.string a,.string m,.int .i64 mo,.int .i64 ev,.int .i64 su,.int .i64 mx,.slice none 0 0,.slice none 0 0] 106)).heap.size:=⟨_,rfl⟩
 have HG1:Hid (w.heap.size+3=g1):=H_ (by rw [hg1];simp)
 have HG1b:Hid (g1<w1.heap.size):=H_ (by rw [hg1];exact hP1.lt)
 rw [←hg1] at HM1 ⊢
 clear hg1
 have HX1:=H_ (HX0.out.below hb1)
 have HY1:=H_ ((HY0.out.below hb1).other (w.heap.size+1+1) 6 (.slice (some ⟨g1,0,none⟩) tl tl) (by omega))
 have HZ1:=H_ ((HZ0.out.below hb1).set 6 (.slice (some ⟨g1,0,none⟩) tl tl) (by simp))
 have HZ1':=H_ (HZ0.out.below hb1)
 have HB1:Hid (Below w.heap.size w (w1.setCell ⟨w.heap.size+1+1,6,none⟩ (.slice (some ⟨g1,0,none⟩) tl tl))):=H_ ((HB0.out.trans (hb1.mono HB0.out.size)).setCell (by simp;omega) _)
 obtain ⟨⟨xl,xc⟩,_⟩:=HX1.out
 have x7:w1.cell? ⟨w.heap.size,7,none⟩=some (.slice ha hl hc):=xc 7 (by simp)
 obtain ⟨⟨zl,zk⟩,zf⟩:=HZ1'.out
 have z6:w1.cell? ⟨w.heap.size+1+1,6,none⟩=some (.slice none 0 0):=zk 6 (by simp)
 have f6:w1.frozen? ⟨w.heap.size+1+1,6,none⟩=false:=zf 6 (by simp)
 clear xc zk zf hT1 hP1 hb1 HZ1' HX0 HY0 HZ0 HX1
 replace HM1:=H_ (MadeG.put HM1.out (w.heap.size+1+1) 6 (.slice (some ⟨g1,0,none⟩) tl tl) (.inr (fun b off e=>by simp at e;have:=HG1.out;omega)))
 go_wp2_with fail
 refine (H2.out _ HB1.out).mono ?_
 rintro e w2 ⟨rfl,hT2,hP2,hb2⟩
 have HM2:=H_ (show MadeG 2 H.cells H.zero _ _ hs w2 from ⟨hT2,.inr ⟨_,rfl,Nat.le_refl _,HHL.out ▸ hP2⟩⟩)
 obtain ⟨g2,hg2⟩:∃g2,g2=(w1.setCell ⟨w.heap.size+1+1,6,none⟩ (.slice (some ⟨g1,0,none⟩) tl tl)).heap.size:=⟨_,rfl⟩
 have HG2:Hid (g1<g2):=H_ (by rw [hg2];simpa using HG1b.out)
 rw [←hg2] at HM2 ⊢
 clear hg2
 replace HM1:=H_ (HM1.out.below hb2)
 replace HY1:=H_ (HY1.out.below hb2)
 replace HZ1:=H_ (HZ1.out.below hb2)
 replace HB1:=H_ (HB1.out.trans (hb2.mono HB1.out.size))
 clear hT2 hP2 hb2 x7 z6 f6 xl zl
 obtain ⟨⟨zl,zk⟩,zf⟩:=HZ1.out
 have z0:w2.cell? ⟨w.heap.size+1+1,0,none⟩=some (.string a):=zk 0 (by simp)
 have z1:w2.cell? ⟨w.heap.size+1+1,1,none⟩=some (.string m):=zk 1 (by simp)
 have z2:w2.cell? ⟨w.heap.size+1+1,2,none⟩=some (.int .i64 mo):=zk 2 (by simp)
 have z3:w2.cell? ⟨w.heap.size+1+1,3,none⟩=some (.int .i64 ev):=zk 3 (by simp)
 have z4:w2.cell? ⟨w.heap.size+1+1,4,none⟩=some (.int .i64 su):=zk 4 (by simp)
 have z5:w2.cell? ⟨w.heap.size+1+1,5,none⟩=some (.int .i64 mx):=zk 5 (by simp)
 have z6:w2.cell? ⟨w.heap.size+1+1,6,none⟩=some (.slice (some ⟨g1,0,none⟩) tl tl):=zk 6 (by simp)
 have z7:w2.cell? ⟨w.heap.size+1+1,7,none⟩=some (.slice none 0 0):=zk 7 (by simp)
 have f7:w2.frozen? ⟨w.heap.size+1+1,7,none⟩=false:=zf 7 (by simp)
 obtain ⟨⟨yl,yk⟩,yf⟩:=HY1.out
 have y0:w2.cell? ⟨w.heap.size+1,0,none⟩=some (.string ⟨#[]⟩):=yk 0 (by simp)
 have q0:w2.frozen? ⟨w.heap.size+1,0,none⟩=false:=yf 0 (by simp)
 have y1:w2.cell? ⟨w.heap.size+1,1,none⟩=some (.string ⟨#[]⟩):=yk 1 (by simp)
 have q1:w2.frozen? ⟨w.heap.size+1,1,none⟩=false:=yf 1 (by simp)
 have y2:w2.cell? ⟨w.heap.size+1,2,none⟩=some (.int .i64 0):=yk 2 (by simp)
 have q2:w2.frozen? ⟨w.heap.size+1,2,none⟩=false:=yf 2 (by simp)
 have y3:w2.cell? ⟨w.heap.size+1,3,none⟩=some (.int .i64 0):=yk 3 (by simp)
 have q3:w2.frozen? ⟨w.heap.size+1,3,none⟩=false:=yf 3 (by simp)
 have y4:w2.cell? ⟨w.heap.size+1,4,none⟩=some (.int .i64 0):=yk 4 (by simp)
 have q4:w2.frozen? ⟨w.heap.size+1,4,none⟩=false:=yf 4 (by simp)
 have y5:w2.cell? ⟨w.heap.size+1,5,none⟩=some (.int .i64 0):=yk 5 (by simp)
 have q5:w2.frozen? ⟨w.heap.size+1,5,none⟩=false:=yf 5 (by simp)
 have y6:w2.cell? ⟨w.heap.size+1,6,none⟩=some (.slice none 0 0):=yk 6 (by simp)
 have q6:w2.frozen? ⟨w.heap.size+1,6,none⟩=false:=yf 6 (by simp)
 have y7:w2.cell? ⟨w.heap.size+1,7,none⟩=some (.slice none 0 0):=yk 7 (by simp)
 have q7:w2.frozen? ⟨w.heap.size+1,7,none⟩=false:=yf 7 (by simp)
 clear zk zf yk yf HY1 HZ1
 have HN1:Hid (∀b off,(some ⟨g1,0,none⟩:Option Addr)=some ⟨b,off,none⟩→∀g,g≤w.heap.size+1+1→b≠g):=H_ (fun b off e g hg=>by simp at e;have:=HG1.out;omega)
 have HN2:Hid (∀b off,(some ⟨g2,0,none⟩:Option Addr)=some ⟨b,off,none⟩→∀g,g≤w.heap.size+1+1→b≠g):=H_ (fun b off e g hg=>by simp at e;have:=HG1.out;have:=HG2.out;omega)
 go_wp2_with fail
 refine bodyPost_ret (v:=.agg #[.string a,.string m,.int .i64 mo,.int .i64 ev,.int .i64 su,.int .i64 mx,.slice (some ⟨g1,0,none⟩) tl tl,.slice (some ⟨g2,0,none⟩) hl hl]) (by simp [results,Tryz.results68,go_sem,y0,y1,y2,y3,y4,y5,y6,y7]) rfl ⟨_,rfl,HF.out _ g1 g2 (by have:=HG1.out;omega) (by have:=HG1.out;have:=HG2.out;omega) (by have:=HG2.out;omega) ?_ ?_,?_⟩
 ·exact (MadeG.put (MadeG.put (MadeG.put (MadeG.put (MadeG.put (MadeG.put (MadeG.put (MadeG.put (MadeG.put HM1.out _ _ _ (.inr (fun b off e=>HN1.out b off e _ (by omega)))) _ _ _ (.inr (fun b off e=>HN1.out b off e _ (by omega)))) _ _ _ (.inr (fun b off e=>HN1.out b off e _ (by omega)))) _ _ _ (.inr (fun b off e=>HN1.out b off e _ (by omega)))) _ _ _ (.inr (fun b off e=>HN1.out b off e _ (by omega)))) _ _ _ (.inr (fun b off e=>HN1.out b off e _ (by omega)))) _ _ _ (.inr (fun b off e=>HN1.out b off e _ (by omega)))) _ _ _ (.inr (fun b off e=>HN1.out b off e _ (by omega)))) _ _ _ (.inr (fun b off e=>HN1.out b off e _ (by omega))))
 ·exact (MadeG.put (MadeG.put (MadeG.put (MadeG.put (MadeG.put (MadeG.put (MadeG.put (MadeG.put (MadeG.put HM2.out _ _ _ (.inr (fun b off e=>HN2.out b off e _ (by omega)))) _ _ _ (.inr (fun b off e=>HN2.out b off e _ (by omega)))) _ _ _ (.inr (fun b off e=>HN2.out b off e _ (by omega)))) _ _ _ (.inr (fun b off e=>HN2.out b off e _ (by omega)))) _ _ _ (.inr (fun b off e=>HN2.out b off e _ (by omega)))) _ _ _ (.inr (fun b off e=>HN2.out b off e _ (by omega)))) _ _ _ (.inr (fun b off e=>HN2.out b off e _ (by omega)))) _ _ _ (.inr (fun b off e=>HN2.out b off e _ (by omega)))) _ _ _ (.inr (fun b off e=>HN2.out b off e _ (by omega))))
 ·exact (((((((((HB1.out.setCell (by simp;omega) _).setCell (by simp) _).setCell (by simp) _).setCell (by simp) _).setCell (by simp) _).setCell (by simp) _).setCell (by simp) _).setCell (by simp) _).setCell (by simp) _)
theorem toW_any (v:Value) (x:Wd) (w:World) (ht:x.ts.length≤1048576) (hh:x.hs.length≤1048576) (h:IsWd v x w) :
 Calls Tryz.prog 68 #[v] w fun e w'=>∃v',e=.returned v'∧MadeW w.heap.size x v' w'∧Below w.heap.size w w':=by
 obtain ⟨ta,tc,ha,hc,rfl,hT,hH⟩:=h
 exact toW_in x.a x.m x.mo x.ev x.su x.mx ta x.ts tc ha x.hs hc w ht hh hT hH
set_option maxRecDepth 100000 in
set_option maxHeartbeats 8000000 in
theorem eqW_in (a m:ByteArray) (mo ev su mx:Int) (ta:Option Addr) (tl tc:Nat) (ha:Option Addr) (hl hc:Nat) (ta':Option Addr) (tc':Nat) (ha':Option Addr) (hc':Nat) (w:World)
 (h1:∀W,Below w.heap.size w W→Calls Tryz.prog 142 #[.slice ta tl tc,.slice ta' tl tc'] W fun e w'=>e=.returned (.bool true)∧Below W.heap.size W w')
 (h2:∀W,Below w.heap.size w W→Calls Tryz.prog 143 #[.slice ha hl hc,.slice ha' hl hc'] W fun e w'=>e=.returned (.bool true)∧Below W.heap.size W w') :
 Calls Tryz.prog 86 #[.agg #[.string a,.string m,.int .i64 mo,.int .i64 ev,.int .i64 su,.int .i64 mx,.slice ta tl tc,.slice ha hl hc],.agg #[.string a,.string m,.int .i64 mo,.int .i64 ev,.int .i64 su,.int .i64 mx,.slice ta' tl tc',.slice ha' hl hc']] w fun e w'=>e=.returned (.bool true)∧Below w.heap.size w w':=by
 have H1:=H_ h1
 have H2:=H_ h2
 have HB0:Hid (Below w.heap.size w ((w.alloc (.cells #[.string a,.string m,.int .i64 mo,.int .i64 ev,.int .i64 su,.int .i64 mx,.slice ta tl tc,.slice ha hl hc] 106)).alloc (.cells #[.string a,.string m,.int .i64 mo,.int .i64 ev,.int .i64 su,.int .i64 mx,.slice ta' tl tc',.slice ha' hl hc'] 106))):=H_ (((Below.refl _ _).alloc (Nat.le_refl _) _).alloc (by simp) _)
 have HX0:=H_ ((Blk.new w [.string a,.string m,.int .i64 mo,.int .i64 ev,.int .i64 su,.int .i64 mx,.slice ta tl tc,.slice ha hl hc] 106).below ((Below.refl _ _).alloc (Nat.le_refl _) (Obj.cells #[.string a,.string m,.int .i64 mo,.int .i64 ev,.int .i64 su,.int .i64 mx,.slice ta' tl tc',.slice ha' hl hc'] 106)))
 have HY0:=H_ (Blk.new (w.alloc (.cells #[.string a,.string m,.int .i64 mo,.int .i64 ev,.int .i64 su,.int .i64 mx,.slice ta tl tc,.slice ha hl hc] 106)) [.string a,.string m,.int .i64 mo,.int .i64 ev,.int .i64 su,.int .i64 mx,.slice ta' tl tc',.slice ha' hl hc'] 106)
 have e1:(w.alloc (.cells #[.string a,.string m,.int .i64 mo,.int .i64 ev,.int .i64 su,.int .i64 mx,.slice ta tl tc,.slice ha hl hc] 106)).heap.size=w.heap.size+1:=by simp
 rw [e1] at HY0
 clear e1 h1 h2
 go_enter Tryz.func86,Tryz.ntmps86
 go_wp2_with fail
 refine (H1.out _ HB0.out).mono ?_
 rintro e w1 ⟨rfl,hb1⟩
 have HB1:=H_ (HB0.out.trans (hb1.mono HB0.out.size))
 have HX1:=H_ (HX0.out.below hb1)
 have HY1:=H_ (HY0.out.below hb1)
 obtain ⟨xl,xc⟩:=HX1.out
 have x7:w1.cell? ⟨w.heap.size,7,none⟩=some (.slice ha hl hc):=xc 7 (by simp)
 obtain ⟨yl,yc⟩:=HY1.out
 have y7:w1.cell? ⟨w.heap.size+1,7,none⟩=some (.slice ha' hl hc'):=yc 7 (by simp)
 clear xc yc hb1
 go_wp2_with fail
 refine (H2.out _ HB1.out).mono ?_
 rintro e w2 ⟨rfl,hb2⟩
 have HB2:=H_ (HB1.out.trans (hb2.mono HB1.out.size))
 clear hb2
 go_wp2_with fail
 go_ret
 exact ⟨rfl,HB2.out⟩
theorem eqW_any (v v':Value) (x:Wd) (w:World) (ht:x.ts.length≤1048576) (hh:x.hs.length≤1048576) (h:IsWd v x w) (h':IsWd v' x w) :
 Calls Tryz.prog 86 #[v,v'] w fun e w'=>e=.returned (.bool true)∧Below w.heap.size w w':=by
 obtain ⟨ta,tc,ha,hc,rfl,hT,hH⟩:=h
 obtain ⟨ta',tc',ha',hc',rfl,hT',hH'⟩:=h'
 exact eqW_in x.a x.m x.mo x.ev x.su x.mx ta x.ts.length tc ha x.hs.length hc ta' tc' ha' hc' w (fun W hW=>eqTs_any ta ta' tc tc' x.ts W ht (hT.below hW) (hT'.below hW)) (fun W hW=>eqHs_any ha ha' hc hc' x.hs W hh (hH.below hW) (hH'.below hW))
end WinR
end Go.Proofs.YtnceeaccbcfopaaGreatDoor
