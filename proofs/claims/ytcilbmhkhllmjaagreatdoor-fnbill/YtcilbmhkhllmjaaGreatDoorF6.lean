/-
  Windows that the law is given: the law's own copies, and windows held against each other. The condition: at most 1048576 of each.
  The program's rising lists: whether hours rise. The condition: at most 1048576 of them.
  A day's date, the program's side. The condition: the program's table stands in its variable.
  A day's date, the model's side. No condition.
  A day's date: both sides hand back the same; of a day within the years it is a right date, whose day is that one. The condition: the program's table stands in its variable.
  A right minute's month: both sides hand back the same; whether an hour lies in a month. The condition: the program's table stands in its variable.
-/
import Derived.Test.YtcilbmhkhllmjaaGreatDoorF5
namespace Go.Proofs.YtcilbmhkhllmjaaGreatDoor
open Go.ChangeShapes Go.WideShapes Go.ChangeAt Go.RowKit
set_option linter.unusedVariables false
namespace WinR
open RowG
open EvtR (Pt)
open CatR (Blk Blk.new)
def BlkW (b:Nat) (cs:List Value) (w:World):Prop:=Blk b cs w∧∀i,i<cs.length→w.frozen? ⟨b,i,none⟩=false
theorem BlkW.below {b:Nat} {cs:List Value} {w w':World} (h:BlkW b cs w) (hb:Below w.heap.size w w'):BlkW b cs w' :=
 ⟨h.1.below hb,fun i hi=>(hb.frozen (p:=⟨b,i,none⟩) h.1.1).trans (h.2 i hi)⟩
theorem BlkW.new (w:World) (cs:List Value) (T:TypeId):BlkW w.heap.size cs (w.alloc (.cells cs.toArray T)) :=
 ⟨Blk.new w cs T,fun i hi=>by simp [go_sem]⟩
theorem BlkW.set {b:Nat} {cs:List Value} {w:World} (h:BlkW b cs w) (o:Nat) (v:Value) (ho:o<cs.length):BlkW b (cs.set o v) (w.setCell ⟨b,o,none⟩ v):=by
 obtain ⟨⟨hl,hc⟩,hf⟩:=h
 refine ⟨⟨by simpa using hl,fun i hi=>?_⟩,fun i hi=>?_⟩
 ·rw [List.length_set] at hi
  by_cases e:o=i
  ·subst e
   have:=hc o hi
   rw [List.getElem?_eq_getElem hi] at this
   rw [List.getElem?_set_self ho]
   simp [go_sem,this]
  ·rw [List.getElem?_set_ne e,←hc i hi]
   simp [go_sem]
 ·rw [List.length_set] at hi
  have:=hf i hi
  simp [go_sem,this]
theorem BlkW.other {b:Nat} {cs:List Value} {w:World} (h:BlkW b cs w) (g o:Nat) (v:Value) (hg:g≠b):BlkW b cs (w.setCell ⟨g,o,none⟩ v):=by
 have e:=(grown_set w g o v).block b h.1.1 (by simp;exact fun q=>hg q.symm)
 exact ⟨⟨by simpa using h.1.1,fun i hi=>(World.cell?_of_block (a:=⟨b,i,none⟩) e).trans (h.1.2 i hi)⟩,fun i hi=>(World.frozen?_of_block (a:=⟨b,i,none⟩) e).trans (h.2 i hi)⟩
theorem Rws.put {α:Type} {k:Nat} {cells:α→List Value} {z:α} {ao:Option Addr} {xs:List α} {w:World} (h:Rws k cells z ao xs w) (g o:Nat) (v:Value) (hne:xs.length=0∨∀b off,ao=some ⟨b,off,none⟩→b≠g):Rws k cells z ao xs (w.setCell ⟨g,o,none⟩ v) :=
 h.grown (grown_set w g o v) (hne.imp id (fun hn b off e q=>hn b off e (by simpa using q)))
theorem MadeG.put {α:Type} {k:Nat} {cells:α→List Value} {z:α} {base:Nat} {ao:Option Addr} {xs:List α} {w:World} (h:MadeG k cells z base ao xs w) (g o:Nat) (v:Value) (hne:xs.length=0∨∀b off,ao=some ⟨b,off,none⟩→b≠g):MadeG k cells z base ao xs (w.setCell ⟨g,o,none⟩ v):=by
 refine ⟨Rws.put h.rws g o v hne,?_⟩
 rcases h.own with h0|⟨b,e1,e2,e3⟩
 ·exact .inl h0
 ·rcases hne with h0|hn
  ·exact .inl h0
  have e:=(grown_set w g o v).block b e3.lt (by simp;exact fun q=>hn b 0 e1 q)
  exact .inr ⟨b,e1,e2,by simpa using e3.lt,fun x hx=>by obtain ⟨u,hu⟩:=e3.has x hx;exact ⟨u,(World.cell?_of_block (a:=⟨b,x,none⟩) e).trans hu⟩,fun x hx=>(World.frozen?_of_block (a:=⟨b,x,none⟩) e).trans (e3.free x hx)⟩
def Apart (ta ha:Option Addr) (tl hl:Nat):Prop:=tl=0∨hl=0∨∀b o b' o',ta=some ⟨b,o,none⟩→ha=some ⟨b',o',none⟩→b≠b'
def MadeW (base:Nat) (x:Wd) (v:Value) (w:World):Prop:=∃ta tc ha hc,v=.agg (wcells x ta tc ha hc)∧MadeG 1 tcells tz base ta x.ts w∧MadeG 2 H.cells H.zero base ha x.hs w∧Apart ta ha x.ts.length x.hs.length
theorem MadeW.below {base:Nat} {x:Wd} {v:Value} {w w':World} (h:MadeW base x v w) (hb:Below w.heap.size w w'):MadeW base x v w':=by
 obtain ⟨ta,tc,ha,hc,hv,h1,h2,h3⟩:=h
 exact ⟨ta,tc,ha,hc,hv,h1.below hb,h2.below hb,h3⟩
theorem MadeW.low {base base':Nat} {x:Wd} {v:Value} {w:World} (h:MadeW base x v w) (hb:base'≤base):MadeW base' x v w:=by
 obtain ⟨ta,tc,ha,hc,hv,h1,h2,h3⟩:=h
 exact ⟨ta,tc,ha,hc,hv,h1.low hb,h2.low hb,h3⟩
theorem MadeW.is {base:Nat} {x:Wd} {v:Value} {w:World} (h:MadeW base x v w):IsWd v x w:=by
 obtain ⟨ta,tc,ha,hc,hv,h1,h2,h3⟩:=h
 exact ⟨ta,tc,ha,hc,hv,h1.rws,h2.rws⟩
set_option maxRecDepth 100000 in
set_option maxHeartbeats 8000000 in
theorem toW_in (a m:ByteArray) (mo ev su mx:Int) (ta:Option Addr) (ts:List ByteArray) (tc:Nat) (ha:Option Addr) (hs:List H) (hc:Nat) (w:World) (ht:ts.length≤1048576) (hh:hs.length≤1048576) (hT:Tgs ta ts w) (hH:Hrs ha hs w) :
 Calls Tryz.prog 40 #[.agg #[.string a,.string m,.int .i64 mo,.int .i64 ev,.int .i64 su,.int .i64 mx,.slice ta ts.length tc,.slice ha hs.length hc]] w fun e w'=>∃v,e=.returned v∧MadeW w.heap.size ⟨a,m,mo,ev,su,mx,ts,hs⟩ v w'∧Below w.heap.size w w':=by
 have H1:=hid_intro (fun W (hW:Below w.heap.size w W)=>toTs_any ta tc ts W ht (hT.below hW))
 have H2:=hid_intro (fun W (hW:Below w.heap.size w W)=>toHs_any ha hc hs W hh (hH.below hW))
 have HF:Hid (∀W g1 g2,w.heap.size≤g1→w.heap.size≤g2→g1≠g2→MadeG 1 tcells tz g1 (some ⟨g1,0,none⟩) ts W→MadeG 2 H.cells H.zero g2 (some ⟨g2,0,none⟩) hs W→MadeW w.heap.size ⟨a,m,mo,ev,su,mx,ts,hs⟩ (.agg #[.string a,.string m,.int .i64 mo,.int .i64 ev,.int .i64 su,.int .i64 mx,.slice (some ⟨g1,0,none⟩) ts.length ts.length,.slice (some ⟨g2,0,none⟩) hs.length hs.length]) W):=hid_intro (fun W g1 g2 l1 l2 hn m1 m2 =>
  ⟨_,_,_,_,rfl,m1.low l1,m2.low l2,.inr (.inr (fun b o b' o' e1 e2=>by simp at e1 e2;omega))⟩)
 generalize MadeW w.heap.size ⟨a,m,mo,ev,su,mx,ts,hs⟩=M at *
 obtain ⟨tl,htl⟩:∃tl,tl=ts.length:=⟨_,rfl⟩
 obtain ⟨hl,hhl⟩:∃hl,hl=hs.length:=⟨_,rfl⟩
 have HTL:=hid_intro htl
 have HHL:=hid_intro hhl
 rw [←htl] at ht H1 HF ⊢
 rw [←hhl] at hh H2 HF ⊢
 clear hT hH htl hhl
 have HB0:Hid (Below w.heap.size w (((w.alloc (.cells #[.string a,.string m,.int .i64 mo,.int .i64 ev,.int .i64 su,.int .i64 mx,.slice ta tl tc,.slice ha hl hc] 67)).alloc (.cells #[.string ⟨#[]⟩,.string ⟨#[]⟩,.int .i64 0,.int .i64 0,.int .i64 0,.int .i64 0,.slice none 0 0,.slice none 0 0] 74)).alloc (.cells #[.string a,.string m,.int .i64 mo,.int .i64 ev,.int .i64 su,.int .i64 mx,.slice none 0 0,.slice none 0 0] 74))):=hid_intro ((((Below.refl _ _).alloc (Nat.le_refl _) _).alloc (by simp) _).alloc (by simp;omega) _)
 have HX0:=hid_intro (((BlkW.new w [.string a,.string m,.int .i64 mo,.int .i64 ev,.int .i64 su,.int .i64 mx,.slice ta tl tc,.slice ha hl hc] 67).below ((Below.refl _ _).alloc (Nat.le_refl _) (Obj.cells #[.string ⟨#[]⟩,.string ⟨#[]⟩,.int .i64 0,.int .i64 0,.int .i64 0,.int .i64 0,.slice none 0 0,.slice none 0 0] 74))).below ((Below.refl _ _).alloc (Nat.le_refl _) (Obj.cells #[.string a,.string m,.int .i64 mo,.int .i64 ev,.int .i64 su,.int .i64 mx,.slice none 0 0,.slice none 0 0] 74)))
 have HY0:=hid_intro ((BlkW.new (w.alloc (.cells #[.string a,.string m,.int .i64 mo,.int .i64 ev,.int .i64 su,.int .i64 mx,.slice ta tl tc,.slice ha hl hc] 67)) [.string ⟨#[]⟩,.string ⟨#[]⟩,.int .i64 0,.int .i64 0,.int .i64 0,.int .i64 0,.slice none 0 0,.slice none 0 0] 74).below ((Below.refl _ _).alloc (Nat.le_refl _) (Obj.cells #[.string a,.string m,.int .i64 mo,.int .i64 ev,.int .i64 su,.int .i64 mx,.slice none 0 0,.slice none 0 0] 74)))
 have HZ0:=hid_intro (BlkW.new ((w.alloc (.cells #[.string a,.string m,.int .i64 mo,.int .i64 ev,.int .i64 su,.int .i64 mx,.slice ta tl tc,.slice ha hl hc] 67)).alloc (.cells #[.string ⟨#[]⟩,.string ⟨#[]⟩,.int .i64 0,.int .i64 0,.int .i64 0,.int .i64 0,.slice none 0 0,.slice none 0 0] 74)) [.string a,.string m,.int .i64 mo,.int .i64 ev,.int .i64 su,.int .i64 mx,.slice none 0 0,.slice none 0 0] 74)
 have e1:(w.alloc (.cells #[.string a,.string m,.int .i64 mo,.int .i64 ev,.int .i64 su,.int .i64 mx,.slice ta tl tc,.slice ha hl hc] 67)).heap.size=w.heap.size+1:=by simp
 have e2:((w.alloc (.cells #[.string a,.string m,.int .i64 mo,.int .i64 ev,.int .i64 su,.int .i64 mx,.slice ta tl tc,.slice ha hl hc] 67)).alloc (.cells #[.string ⟨#[]⟩,.string ⟨#[]⟩,.int .i64 0,.int .i64 0,.int .i64 0,.int .i64 0,.slice none 0 0,.slice none 0 0] 74)).heap.size=w.heap.size+1+1:=by simp
 rw [e1] at HY0
 rw [e2] at HZ0
 clear e1 e2
 go_enter Tryz.func40,Tryz.ntmps40
 go_wp2_with fail
 refine (H1.out _ HB0.out).mono ?_
 rintro e w1 ⟨rfl,hT1,hP1,hb1⟩
 have HM1:=hid_intro (show MadeG 1 tcells tz _ _ ts w1 from ⟨hT1,.inr ⟨_,rfl,Nat.le_refl _,by rw [Nat.mul_one];exact HTL.out ▸ hP1⟩⟩)
 obtain ⟨g1,hg1⟩:∃g1,g1=(((w.alloc (.cells #[.string a,.string m,.int .i64 mo,.int .i64 ev,.int .i64 su,.int .i64 mx,.slice ta tl tc,.slice ha hl hc] 67)).alloc (.cells #[.string ⟨#[]⟩,.string ⟨#[]⟩,.int .i64 0,.int .i64 0,.int .i64 0,.int .i64 0,.slice none 0 0,.slice none 0 0] 74)).alloc (.cells #[.string a,.string m,.int .i64 mo,.int .i64 ev,.int .i64 su,.int .i64 mx,.slice none 0 0,.slice none 0 0] 74)).heap.size:=⟨_,rfl⟩
 have HG1:Hid (w.heap.size+3=g1):=hid_intro (by rw [hg1];simp)
 have HG1b:Hid (g1<w1.heap.size):=hid_intro (by rw [hg1];exact hP1.lt)
 rw [←hg1] at HM1 ⊢
 clear hg1
 have HX1:=hid_intro (HX0.out.below hb1)
 have HY1:=hid_intro ((HY0.out.below hb1).other (w.heap.size+1+1) 6 (.slice (some ⟨g1,0,none⟩) tl tl) (by omega))
 have HZ1:=hid_intro ((HZ0.out.below hb1).set 6 (.slice (some ⟨g1,0,none⟩) tl tl) (by simp))
 have HZ1':=hid_intro (HZ0.out.below hb1)
 have HB1:Hid (Below w.heap.size w (w1.setCell ⟨w.heap.size+1+1,6,none⟩ (.slice (some ⟨g1,0,none⟩) tl tl))):=hid_intro ((HB0.out.trans (hb1.mono HB0.out.size)).setCell (by simp;omega) _)
 obtain ⟨⟨xl,xc⟩,_⟩:=HX1.out
 have x7:w1.cell? ⟨w.heap.size,7,none⟩=some (.slice ha hl hc):=xc 7 (by simp)
 obtain ⟨⟨zl,zk⟩,zf⟩:=HZ1'.out
 have z6:w1.cell? ⟨w.heap.size+1+1,6,none⟩=some (.slice none 0 0):=zk 6 (by simp)
 have f6:w1.frozen? ⟨w.heap.size+1+1,6,none⟩=false:=zf 6 (by simp)
 clear xc zk zf hT1 hP1 hb1 HZ1' HX0 HY0 HZ0 HX1
 replace HM1:=hid_intro (MadeG.put HM1.out (w.heap.size+1+1) 6 (.slice (some ⟨g1,0,none⟩) tl tl) (.inr (fun b off e=>by simp at e;have:=HG1.out;omega)))
 go_wp2_with fail
 refine (H2.out _ HB1.out).mono ?_
 rintro e w2 ⟨rfl,hT2,hP2,hb2⟩
 have HM2:=hid_intro (show MadeG 2 H.cells H.zero _ _ hs w2 from ⟨hT2,.inr ⟨_,rfl,Nat.le_refl _,HHL.out ▸ hP2⟩⟩)
 obtain ⟨g2,hg2⟩:∃g2,g2=(w1.setCell ⟨w.heap.size+1+1,6,none⟩ (.slice (some ⟨g1,0,none⟩) tl tl)).heap.size:=⟨_,rfl⟩
 have HG2:Hid (g1<g2):=hid_intro (by rw [hg2];simpa using HG1b.out)
 rw [←hg2] at HM2 ⊢
 clear hg2
 replace HM1:=hid_intro (HM1.out.below hb2)
 replace HY1:=hid_intro (HY1.out.below hb2)
 replace HZ1:=hid_intro (HZ1.out.below hb2)
 replace HB1:=hid_intro (HB1.out.trans (hb2.mono HB1.out.size))
 clear hT2 hP2 hb2 x7 z6 f6 xl zl
 obtain ⟨⟨zl,zk⟩,zf⟩:=HZ1.out
 have z0:w2.cell? ⟨w.heap.size+1+1,0,none⟩=some (.string a):=zk 0 (by simp)
 have z1:w2.cell? ⟨w.heap.size+1+1,1,none⟩=some (.string m):=zk 1 (by simp)
 have z2:w2.cell? ⟨w.heap.size+1+1,2,none⟩=some (.int .i64 mo):=zk 2 (by simp)
 have z3:w2.cell? ⟨w.heap.size+1+1,3,none⟩=some (.int .i64 ev):=zk 3 (by simp)
 have z4:w2.cell? ⟨w.heap.size+1+1,4,none⟩=some (.int .i64 su):=zk 4 (by simp)
 have z5:w2.cell? ⟨w.heap.size+1+1,5,none⟩=some (.int .i64 mx):=zk 5 (by simp)
 have z6:w2.cell? ⟨w.heap.size+1+1,6,none⟩=some (.slice (some ⟨g1,0,none⟩) tl tl):=zk 6 (by simp)
 have z7:w2.cell? ⟨w.heap.size+1+1,7,none⟩=some (.slice none 0 0):=zk 7 (by simp)
 have f7:w2.frozen? ⟨w.heap.size+1+1,7,none⟩=false:=zf 7 (by simp)
 obtain ⟨⟨yl,yk⟩,yf⟩:=HY1.out
 have y0:w2.cell? ⟨w.heap.size+1,0,none⟩=some (.string ⟨#[]⟩):=yk 0 (by simp)
 have q0:w2.frozen? ⟨w.heap.size+1,0,none⟩=false:=yf 0 (by simp)
 have y1:w2.cell? ⟨w.heap.size+1,1,none⟩=some (.string ⟨#[]⟩):=yk 1 (by simp)
 have q1:w2.frozen? ⟨w.heap.size+1,1,none⟩=false:=yf 1 (by simp)
 have y2:w2.cell? ⟨w.heap.size+1,2,none⟩=some (.int .i64 0):=yk 2 (by simp)
 have q2:w2.frozen? ⟨w.heap.size+1,2,none⟩=false:=yf 2 (by simp)
 have y3:w2.cell? ⟨w.heap.size+1,3,none⟩=some (.int .i64 0):=yk 3 (by simp)
 have q3:w2.frozen? ⟨w.heap.size+1,3,none⟩=false:=yf 3 (by simp)
 have y4:w2.cell? ⟨w.heap.size+1,4,none⟩=some (.int .i64 0):=yk 4 (by simp)
 have q4:w2.frozen? ⟨w.heap.size+1,4,none⟩=false:=yf 4 (by simp)
 have y5:w2.cell? ⟨w.heap.size+1,5,none⟩=some (.int .i64 0):=yk 5 (by simp)
 have q5:w2.frozen? ⟨w.heap.size+1,5,none⟩=false:=yf 5 (by simp)
 have y6:w2.cell? ⟨w.heap.size+1,6,none⟩=some (.slice none 0 0):=yk 6 (by simp)
 have q6:w2.frozen? ⟨w.heap.size+1,6,none⟩=false:=yf 6 (by simp)
 have y7:w2.cell? ⟨w.heap.size+1,7,none⟩=some (.slice none 0 0):=yk 7 (by simp)
 have q7:w2.frozen? ⟨w.heap.size+1,7,none⟩=false:=yf 7 (by simp)
 clear zk zf yk yf HY1 HZ1
 have HN1:Hid (∀b off,(some ⟨g1,0,none⟩:Option Addr)=some ⟨b,off,none⟩→∀g,g≤w.heap.size+1+1→b≠g):=hid_intro (fun b off e g hg=>by simp at e;have:=HG1.out;omega)
 have HN2:Hid (∀b off,(some ⟨g2,0,none⟩:Option Addr)=some ⟨b,off,none⟩→∀g,g≤w.heap.size+1+1→b≠g):=hid_intro (fun b off e g hg=>by simp at e;have:=HG1.out;have:=HG2.out;omega)
 go_wp2_with fail
 refine bodyPost_ret (v:=.agg #[.string a,.string m,.int .i64 mo,.int .i64 ev,.int .i64 su,.int .i64 mx,.slice (some ⟨g1,0,none⟩) tl tl,.slice (some ⟨g2,0,none⟩) hl hl]) (by simp [results,Tryz.results40,go_sem,y0,y1,y2,y3,y4,y5,y6,y7]) rfl ⟨_,rfl,HF.out _ g1 g2 (by have:=HG1.out;omega) (by have:=HG1.out;have:=HG2.out;omega) (by have:=HG2.out;omega) ?_ ?_,?_⟩
 ·exact (MadeG.put (MadeG.put (MadeG.put (MadeG.put (MadeG.put (MadeG.put (MadeG.put (MadeG.put (MadeG.put HM1.out _ _ _ (.inr (fun b off e=>HN1.out b off e _ (by omega)))) _ _ _ (.inr (fun b off e=>HN1.out b off e _ (by omega)))) _ _ _ (.inr (fun b off e=>HN1.out b off e _ (by omega)))) _ _ _ (.inr (fun b off e=>HN1.out b off e _ (by omega)))) _ _ _ (.inr (fun b off e=>HN1.out b off e _ (by omega)))) _ _ _ (.inr (fun b off e=>HN1.out b off e _ (by omega)))) _ _ _ (.inr (fun b off e=>HN1.out b off e _ (by omega)))) _ _ _ (.inr (fun b off e=>HN1.out b off e _ (by omega)))) _ _ _ (.inr (fun b off e=>HN1.out b off e _ (by omega))))
 ·exact (MadeG.put (MadeG.put (MadeG.put (MadeG.put (MadeG.put (MadeG.put (MadeG.put (MadeG.put (MadeG.put HM2.out _ _ _ (.inr (fun b off e=>HN2.out b off e _ (by omega)))) _ _ _ (.inr (fun b off e=>HN2.out b off e _ (by omega)))) _ _ _ (.inr (fun b off e=>HN2.out b off e _ (by omega)))) _ _ _ (.inr (fun b off e=>HN2.out b off e _ (by omega)))) _ _ _ (.inr (fun b off e=>HN2.out b off e _ (by omega)))) _ _ _ (.inr (fun b off e=>HN2.out b off e _ (by omega)))) _ _ _ (.inr (fun b off e=>HN2.out b off e _ (by omega)))) _ _ _ (.inr (fun b off e=>HN2.out b off e _ (by omega)))) _ _ _ (.inr (fun b off e=>HN2.out b off e _ (by omega))))
 ·exact (((((((((HB1.out.setCell (by simp;omega) _).setCell (by simp) _).setCell (by simp) _).setCell (by simp) _).setCell (by simp) _).setCell (by simp) _).setCell (by simp) _).setCell (by simp) _).setCell (by simp) _)
theorem toW_any (v:Value) (x:Wd) (w:World) (ht:x.ts.length≤1048576) (hh:x.hs.length≤1048576) (h:IsWd v x w) :
 Calls Tryz.prog 40 #[v] w fun e w'=>∃v',e=.returned v'∧MadeW w.heap.size x v' w'∧Below w.heap.size w w':=by
 obtain ⟨ta,tc,ha,hc,rfl,hT,hH⟩:=h
 exact toW_in x.a x.m x.mo x.ev x.su x.mx ta x.ts tc ha x.hs hc w ht hh hT hH
set_option maxRecDepth 100000 in
set_option maxHeartbeats 8000000 in
theorem eqW_in (a m:ByteArray) (mo ev su mx:Int) (ta:Option Addr) (tl tc:Nat) (ha:Option Addr) (hl hc:Nat) (ta':Option Addr) (tc':Nat) (ha':Option Addr) (hc':Nat) (w:World)
 (h1:∀W,Below w.heap.size w W→Calls Tryz.prog 103 #[.slice ta tl tc,.slice ta' tl tc'] W fun e w'=>e=.returned (.bool true)∧Below W.heap.size W w')
 (h2:∀W,Below w.heap.size w W→Calls Tryz.prog 104 #[.slice ha hl hc,.slice ha' hl hc'] W fun e w'=>e=.returned (.bool true)∧Below W.heap.size W w') :
 Calls Tryz.prog 51 #[.agg #[.string a,.string m,.int .i64 mo,.int .i64 ev,.int .i64 su,.int .i64 mx,.slice ta tl tc,.slice ha hl hc],.agg #[.string a,.string m,.int .i64 mo,.int .i64 ev,.int .i64 su,.int .i64 mx,.slice ta' tl tc',.slice ha' hl hc']] w fun e w'=>e=.returned (.bool true)∧Below w.heap.size w w':=by
 have H1:=hid_intro h1
 have H2:=hid_intro h2
 have HB0:Hid (Below w.heap.size w ((w.alloc (.cells #[.string a,.string m,.int .i64 mo,.int .i64 ev,.int .i64 su,.int .i64 mx,.slice ta tl tc,.slice ha hl hc] 74)).alloc (.cells #[.string a,.string m,.int .i64 mo,.int .i64 ev,.int .i64 su,.int .i64 mx,.slice ta' tl tc',.slice ha' hl hc'] 74))):=hid_intro (((Below.refl _ _).alloc (Nat.le_refl _) _).alloc (by simp) _)
 have HX0:=hid_intro ((Blk.new w [.string a,.string m,.int .i64 mo,.int .i64 ev,.int .i64 su,.int .i64 mx,.slice ta tl tc,.slice ha hl hc] 74).below ((Below.refl _ _).alloc (Nat.le_refl _) (Obj.cells #[.string a,.string m,.int .i64 mo,.int .i64 ev,.int .i64 su,.int .i64 mx,.slice ta' tl tc',.slice ha' hl hc'] 74)))
 have HY0:=hid_intro (Blk.new (w.alloc (.cells #[.string a,.string m,.int .i64 mo,.int .i64 ev,.int .i64 su,.int .i64 mx,.slice ta tl tc,.slice ha hl hc] 74)) [.string a,.string m,.int .i64 mo,.int .i64 ev,.int .i64 su,.int .i64 mx,.slice ta' tl tc',.slice ha' hl hc'] 74)
 have e1:(w.alloc (.cells #[.string a,.string m,.int .i64 mo,.int .i64 ev,.int .i64 su,.int .i64 mx,.slice ta tl tc,.slice ha hl hc] 74)).heap.size=w.heap.size+1:=by simp
 rw [e1] at HY0
 clear e1 h1 h2
 go_enter Tryz.func51,Tryz.ntmps51
 go_wp2_with fail
 refine (H1.out _ HB0.out).mono ?_
 rintro e w1 ⟨rfl,hb1⟩
 have HB1:=hid_intro (HB0.out.trans (hb1.mono HB0.out.size))
 have HX1:=hid_intro (HX0.out.below hb1)
 have HY1:=hid_intro (HY0.out.below hb1)
 obtain ⟨xl,xc⟩:=HX1.out
 have x7:w1.cell? ⟨w.heap.size,7,none⟩=some (.slice ha hl hc):=xc 7 (by simp)
 obtain ⟨yl,yc⟩:=HY1.out
 have y7:w1.cell? ⟨w.heap.size+1,7,none⟩=some (.slice ha' hl hc'):=yc 7 (by simp)
 clear xc yc hb1
 go_wp2_with fail
 refine (H2.out _ HB1.out).mono ?_
 rintro e w2 ⟨rfl,hb2⟩
 have HB2:=hid_intro (HB1.out.trans (hb2.mono HB1.out.size))
 clear hb2
 go_wp2_with fail
 go_ret
 exact ⟨rfl,HB2.out⟩
theorem eqW_any (v v':Value) (x:Wd) (w:World) (ht:x.ts.length≤1048576) (hh:x.hs.length≤1048576) (h:IsWd v x w) (h':IsWd v' x w) :
 Calls Tryz.prog 51 #[v,v'] w fun e w'=>e=.returned (.bool true)∧Below w.heap.size w w':=by
 obtain ⟨ta,tc,ha,hc,rfl,hT,hH⟩:=h
 obtain ⟨ta',tc',ha',hc',rfl,hT',hH'⟩:=h'
 exact eqW_in x.a x.m x.mo x.ev x.su x.mx ta x.ts.length tc ha x.hs.length hc ta' tc' ha' hc' w (fun W hW=>eqTs_any ta ta' tc tc' x.ts W ht (hT.below hW) (hT'.below hW)) (fun W hW=>eqHs_any ha ha' hc hc' x.hs W hh (hH.below hW) (hH'.below hW))
end WinR
namespace WinR
open RowG LtR
open CatR (Blk Blk.new)
def HSt (w:World) (ao:Option Addr) (len cap:Nat) (b o1 o2:Nat) (x y:H) (W:World):Prop:=Below w.heap.size w W∧w.heap.size<W.heap.size∧b<W.heap.size∧W.cell? ⟨w.heap.size,0,none⟩=some (.slice ao len cap)∧W.cell? ⟨w.heap.size,1,none⟩=some (.func (.func 185) #[] #[])∧W.cell? ⟨w.heap.size,2,none⟩=some (.func (.func 186) #[] #[])∧W.cell? ⟨b,o1,none⟩=some (.int .i64 x.h)∧W.cell? ⟨b,o1+1,none⟩=some (.int .i64 x.s)∧W.cell? ⟨b,o2,none⟩=some (.int .i64 y.h)∧W.cell? ⟨b,o2+1,none⟩=some (.int .i64 y.s)
theorem HSt.below {w:World} {ao:Option Addr} {len cap b o1 o2:Nat} {x y:H} {W W':World} (h:HSt w ao len cap b o1 o2 x y W) (hb:Below W.heap.size W W'):HSt w ao len cap b o1 o2 x y W':=by
 obtain ⟨h0,h1,h2,c0,c1,c2,d0,d1,d2,d3⟩:=h
 have c:=fun o=>hb.cell (p:=⟨w.heap.size,o,none⟩) h1
 have d:=fun o=>hb.cell (p:=⟨b,o,none⟩) h2
 have:=hb.size
 exact ⟨h0.trans (hb.mono h0.size),by omega,by omega,(c 0).trans c0,(c 1).trans c1,(c 2).trans c2,(d _).trans d0,(d _).trans d1,(d _).trans d2,(d _).trans d3⟩
set_option maxRecDepth 100000 in
set_option maxHeartbeats 4000000 in
theorem hours_rises (ao:Option Addr) (cap:Nat) (hs:List H) (w:World) (hlen:hs.length≤1048576) (hI:Hrs ao hs w) :
 Calls Tryz.prog 190 #[.agg #[.slice ao hs.length cap,.func (.func 185) #[] #[],.func (.func 186) #[] #[]]] w fun e w'=>e=.returned (.bool (riseB hlt H.zero hs))∧Below w.heap.size w w':=by
 have HI:=hid_intro hI
 have HNO:=hid_intro (fun k=>rise_no (r:=hlt) (z:=H.zero) (xs:=hs) (k:=k))
 have HYES:Hid (RiseTo hlt H.zero hs hs.length→riseB hlt H.zero hs=true):=hid_intro rise_yes
 generalize riseB hlt H.zero hs=R at *
 obtain ⟨len,hl⟩:∃len,len=hs.length:=⟨_,rfl⟩
 rw [←hl] at hlen HYES ⊢
 have HL:=hid_intro hl
 clear hI hl
 have HB0:Hid (Below w.heap.size w (w.alloc (.cells #[.slice ao len cap,.func (.func 185) #[] #[],.func (.func 186) #[] #[]] 183))):=hid_intro ((Below.refl _ _).alloc (Nat.le_refl _) _)
 have HX0:Hid (Blk w.heap.size [.slice ao len cap,.func (.func 185) #[] #[],.func (.func 186) #[] #[]] (w.alloc (.cells #[.slice ao len cap,.func (.func 185) #[] #[],.func (.func 186) #[] #[]] 183))):=hid_intro (Blk.new w _ _)
 go_enter Tryz.func190,Tryz.ntmps190
 go_wp2_with fail
 go_loopw [3] (fun z wr=>∃k:Nat,1≤k∧(k=1∨k≤len)∧z=.int .i64 (k:Int)∧Hid (RiseTo hlt H.zero hs k)∧Hid (Below w.heap.size w wr)∧Hid (Blk w.heap.size [.slice ao len cap,.func (.func 185) #[] #[],.func (.func 186) #[] #[]] wr)) (fun z _=>len-(intOf z).toNat)
 case atStart=>exact ⟨1,by omega,by omega,rfl,hid_intro (rise_one _ (by omega)),HB0,HX0⟩
 case round =>
  obtain ⟨k,hk1,hk2,rfl,HR,HB,HX⟩:=hrel
  obtain ⟨xl,xc⟩:=HX.out
  have x0:wr.cell? ⟨w.heap.size,0,none⟩=some (.slice ao len cap):=xc 0 (by simp)
  have x1:wr.cell? ⟨w.heap.size,1,none⟩=some (.func (.func 185) #[] #[]):=xc 1 (by simp)
  have x2:wr.cell? ⟨w.heap.size,2,none⟩=some (.func (.func 186) #[] #[]):=xc 2 (by simp)
  clear xc
  by_cases hlt1:k<len
  ·have hlt2:(k:Int)<(len:Int):=by omega
   have hk0:(0:Int)≤(k:Int):=by omega
   obtain ⟨j,hj⟩:∃j,j=k-1:=⟨_,rfl⟩
   have hj0:(0:Int)≤(j:Int):=by omega
   have hj1:(j:Int)<(len:Int):=by omega
   have hwr:IntKind.i64.wrap ((k:Int)-1)=(j:Int):=by rw [IntKind.wrap_i64];omega
   obtain ⟨b,off,rfl,hbl,c1,c2⟩:=(HI.out.below HB.out).at k (by have:=HL.out;omega)
   obtain ⟨b',off',he,_,d1,d2⟩:=(HI.out.below HB.out).at j (by have:=HL.out;omega)
   obtain ⟨rfl,rfl⟩:b=b'∧off=off':=by simpa using he
   have HN:=hid_intro (HNO.out k (by have:=HL.out;omega) (by omega))
   have HM:=hid_intro (fun h=>HR.out.more (k:=k) h)
   rw [←hj] at HN HM
   generalize hs.getD k H.zero=X at *
   generalize hs.getD j H.zero=Y at *
   have HS0:Hid (HSt w (some ⟨b,off,none⟩) len cap b (off+k*2) (off+j*2) X Y wr.drew):=hid_intro (HSt.below ⟨HB.out,xl,hbl,x0,x1,x2,c1,c2,d1,d2⟩ (Below.refl _ _).drew)
   obtain ⟨xh,xs⟩:=X
   obtain ⟨yh,ys⟩:=Y
   dsimp only at c1 c2 d1 d2
   clear hj
   by_cases hle:xh≤yh
   ·have HF:Hid (R=false):=hid_intro (HN.out (by unfold hlt;exact decide_eq_false (by show ¬yh<xh;omega)))
    go_wp2_with fail
    go_region_held3 (fun W=>Below w.heap.size w W∧w.heap.size<W.heap.size∧b<W.heap.size∧W.cell? ⟨w.heap.size,0,none⟩=some (.slice (some ⟨b,off,none⟩) len cap)∧W.cell? ⟨w.heap.size,1,none⟩=some (.func (.func 185) #[] #[])∧W.cell? ⟨w.heap.size,2,none⟩=some (.func (.func 186) #[] #[])∧W.cell? ⟨b,off+k*2,none⟩=some (.int .i64 xh)∧W.cell? ⟨b,off+k*2+1,none⟩=some (.int .i64 xs)∧W.cell? ⟨b,off+j*2,none⟩=some (.int .i64 yh)∧W.cell? ⟨b,off+j*2+1,none⟩=some (.int .i64 ys)) (first|assumption|(exact HS0.out)|(exact HSt.below (x:=⟨xh,xs⟩) (y:=⟨yh,ys⟩) (by assumption) hb))
     (first|(go_at_call 185;refine (hkey _ _ _).mono ?_;rintro e w' ⟨rfl,hb⟩))
    rename_i hSz
    have HSz:=hid_intro hSz.1
    clear hSz
    go_wp2_with fail
    go_ret
    exact ⟨ret_bool HF.out.symm,HSz.out⟩
   ·have hle2:yh<xh:=by omega
    have HM2:=hid_intro (HM.out (fun _=>by unfold hlt;exact decide_eq_true (by show yh<xh;omega)))
    go_wp2_with fail
    go_region_held3 (fun W=>Below w.heap.size w W∧w.heap.size<W.heap.size∧b<W.heap.size∧W.cell? ⟨w.heap.size,0,none⟩=some (.slice (some ⟨b,off,none⟩) len cap)∧W.cell? ⟨w.heap.size,1,none⟩=some (.func (.func 185) #[] #[])∧W.cell? ⟨w.heap.size,2,none⟩=some (.func (.func 186) #[] #[])∧W.cell? ⟨b,off+k*2,none⟩=some (.int .i64 xh)∧W.cell? ⟨b,off+k*2+1,none⟩=some (.int .i64 xs)∧W.cell? ⟨b,off+j*2,none⟩=some (.int .i64 yh)∧W.cell? ⟨b,off+j*2+1,none⟩=some (.int .i64 ys)) (first|assumption|(exact HS0.out)|(exact HSt.below (x:=⟨xh,xs⟩) (y:=⟨yh,ys⟩) (by assumption) hb))
     (first|(go_at_call 185;refine (hkey _ _ _).mono ?_;rintro e w' ⟨rfl,hb⟩))
    rename_i hSz
    have HSz:=hid_intro hSz.1
    have HSy:Hid (Blk w.heap.size [.slice (some ⟨b,off,none⟩) len cap,.func (.func 185) #[] #[],.func (.func 186) #[] #[]] w'):=hid_intro ⟨hSz.2.1,fun i hi=>by
     match i,hi with
     | 0,_=>exact hSz.2.2.2.1
     | 1,_=>exact hSz.2.2.2.2.1
     | 2,_=>exact hSz.2.2.2.2.2.1⟩
    clear hSz
    go_wp2_with fail
    go_roundw
    case rel=>exact ⟨k+1,by omega,by omega,by go_num,HM2,HSz,HSy⟩
    case measure=>simp [intOf];omega
  ·have hlt2:¬(k:Int)<(len:Int):=by omega
   have HF:Hid (R=true):=hid_intro (HYES.out (fun i h1 h2=>HR.out i (by omega) h2))
   go_wp2_with fail
   go_ret
   exact ⟨ret_bool HF.out.symm,HB.out⟩
end WinR
namespace DateR
open DateM
theorem less_month (y left:Int) (j J:Nat) (h1:ms y J≤left) (h2:left<ms y (J+1)) (hj:j≤J) (hJ:J<12) (y1:1970≤y) (y2:y≤2200) :
 ∃L X:Int,L=left-ms y j∧X=mdays y ((j:Int)+1)∧0≤L∧L≤400∧28≤X∧X≤31∧(j<J→¬L<X)∧(j=J→L<X)∧L-X=left-ms y (j+1):=by
 have a:=ms_mono y hj
 have b:=ms_bd y (J+1)
 have b2:=ms_bd y j
 have c:mdays y ((j:Int)+1)=md y ((j:Int)+1):=if_pos (by omega)
 have d:=md_bd y ((j:Int)+1)
 have e:=ms_succ y j
 refine ⟨_,_,rfl,rfl,by omega,by omega,by omega,by omega,fun h=>?_,fun h=>?_,by omega⟩
 ·have:=ms_mono y (show j+1≤J from h)
  omega
 ·subst h;omega
set_option maxRecDepth 100000 in
set_option maxHeartbeats 4000000 in
theorem iny (y left:Int) (J:Nat) (h1:ms y J≤left) (h2:left<ms y (J+1)) (hJ:J<12) (y1:1970≤y) (y2:y≤2200) (w:World) (hL:Laid w) :
 Calls Tryz.prog 213 #[.int .i64 y,.int .i64 left] w fun e w'=>e=.returned (date y ((J:Int)+1) (left-ms y J+1))∧Below w.heap.size w w':=by
 have HB0:=hid_intro ((Below.refl w.heap.size w).alloc (Nat.le_refl _) (Obj.cells #[.int .i64 0,.int .i64 0,.int .i64 0] 208))
 have HL:=hid_intro (hL.below HB0.out)
 have H:=fun j hj=>less_month y left j J h1 h2 hj hJ y1 y2
 have HH:=hid_intro H
 clear H hL h1 h2
 go_enter Tryz.func213,Tryz.ntmps213
 go_wp2_with fail
 go_loop [1,7] (fun x z=>∃j:Nat,j≤J∧z=.int .i64 j∧x=.int .i64 (left-ms y j)) (fun _ z=>J+1-(intOf z).toNat)
 case atStart=>exact ⟨0,by omega,rfl,by simp [ms]⟩
 case round =>
  obtain ⟨j,hj,rfl,rfl⟩:=hrel
  obtain ⟨L,X,hLe,hX,l0,l1,x0,x1,f1,f2,f3⟩:=HH.out j hj
  have HI:=hid_intro (impl_md y ((j:Int)+1) _ HL.out)
  rw [←hX] at HI
  rw [←hLe]
  have HF:=hid_intro f3
  have j2:(j:Int)<12:=by omega
  have HLe:=hid_intro hLe
  clear hLe hX f3
  by_cases hlt:j<J
  ·have hn:=f1 hlt
   clear f1 f2
   go_wp2_with (go_at_call 215;refine HI.out.mono ?_;rintro e w' ⟨rfl,rfl⟩)
   go_round
   case rel=>exact ⟨j+1,by omega,by go_num,by rw [HF.out]⟩
   case measure=>simp [intOf];omega
  ·obtain rfl:j=J:=by omega
   have hn:=f2 rfl
   clear f1 f2
   go_wp2_with (go_at_call 215;refine HI.out.mono ?_;rintro e w' ⟨rfl,rfl⟩)
   rw [←HLe.out]
   refine bodyPost_ret (v:=date y ((j:Int)+1) (L+1)) (by simp [date,results,Tryz.results213,go_sem]) rfl ⟨rfl,?_⟩
   repeat' first|exact HB0.out|apply Below.setCell
   all_goals first|exact Nat.le_refl _|exact (Below.refl _ _).alloc (Nat.le_refl _) _
theorem less_year (day:Int) (j K:Nat) (h1:ys K≤day) (h2:day<ys (K+1)) (hj:j≤K) (hd:day≤100000) :
 ∃L X:Int,L=day-ys j∧X=yd (1970+(j:Int))∧0≤L∧L≤100000∧365≤X∧X≤366∧(j<K→¬L<X)∧(j=K→L<X)∧L-X=day-ys (j+1):=by
 have a:=ys_mono hj
 have b2:=ys_bd j
 have d:=yd_bd (1970+(j:Int))
 have e:=ys_succ j
 refine ⟨_,_,rfl,rfl,by omega,by omega,by omega,by omega,fun h=>?_,fun h=>?_,by omega⟩
 ·have:=ys_mono (show j+1≤K from h)
  omega
 ·subst h;omega
set_option maxRecDepth 100000 in
set_option maxHeartbeats 4000000 in
theorem impl_dateof_in (day:Int) (K J:Nat) (d0:0≤day) (d1:day≤100000) (h1:ys K≤day) (h2:day<ys (K+1)) (hK:K≤230) (m1:ms (1970+(K:Int)) J≤day-ys K) (m2:day-ys K<ms (1970+(K:Int)) (J+1)) (hJ:J<12) (w:World) (hL:Laid w) :
 Calls Tryz.prog 210 #[.int .i64 day] w fun e w'=>e=.returned (date (1970+(K:Int)) ((J:Int)+1) (day-ys K-ms (1970+(K:Int)) J+1))∧Below w.heap.size w w':=by
 have HB0:=hid_intro ((Below.refl w.heap.size w).alloc (Nat.le_refl _) (Obj.cells #[.int .i64 0,.int .i64 0,.int .i64 0] 208))
 have HL:=hid_intro (hL.below HB0.out)
 have HH:=hid_intro (fun j hj=>less_year day j K h1 h2 hj d1)
 have HY:=hid_intro (fun w hL=>iny (1970+(K:Int)) (day-ys K) J m1 m2 hJ (by omega) (by omega) w hL)
 clear hL h1 h2 m1 m2
 go_enter Tryz.func210,Tryz.ntmps210
 go_wp2_with (first|(go_at_call 211;go_in)|(go_at_call 66;go_in))
 go_loop [3,11] (fun x z=>∃j:Nat,j≤K∧z=.int .i64 j∧x=.int .i64 (day-ys j)) (fun _ z=>K+1-(intOf z).toNat)
 case atStart=>exact ⟨0,by omega,rfl,by simp [ys]⟩
 case round =>
  obtain ⟨j,hj,rfl,rfl⟩:=hrel
  obtain ⟨L,X,hLe,hX,l0,l1,x0,x1,f1,f2,f3⟩:=HH.out j hj
  have HI:=hid_intro (fun w=>impl_yd (1970+(j:Int)) w)
  rw [←hX] at HI
  rw [←hLe]
  have HF:=hid_intro f3
  have j2:(j:Int)<231:=by omega
  have HLe:=hid_intro hLe
  clear hLe hX f3
  by_cases hlt:j<K
  ·have hn:=f1 hlt
   clear f1 f2
   go_wp2_with (go_at_call 212;refine (HI.out _).mono ?_;rintro e w' ⟨rfl,rfl⟩)
   go_round
   case rel=>exact ⟨j+1,by omega,by go_num,by rw [HF.out]⟩
   case measure=>simp [intOf];omega
  ·obtain rfl:j=K:=by omega
   have hn:=f2 rfl
   rw [←HLe.out] at HY
   obtain ⟨D,hD⟩:∃D,D=L-ms (1970+(j:Int)) J+1:=⟨_,rfl⟩
   rw [←hD] at HY
   have HD:=hid_intro hD
   clear f1 f2 hD HH
   unfold date at *
   go_wp2_with (first|(go_at_call 212;refine (HI.out _).mono ?_;rintro e w' ⟨rfl,rfl⟩)|(go_at_call 213;refine (HY.out _ HL.out).mono ?_;rintro e w2 ⟨rfl,hb⟩;obtain ⟨hc,hz⟩:=bcell hb))
   refine bodyPost_ret (v:=date (1970+(j:Int)) ((J:Int)+1) D) (by simp [date,results,Tryz.results210,go_sem,hc]) rfl ⟨by rw [HD.out,HLe.out],?_⟩
   exact (((bel_alloc hb).setCell (by simp) _).setCell (by simp) _).setCell (by simp) _
theorem past_year (day:Int) (j K:Nat) (h1:ys K≤day) (hK:231≤K) (hj:j≤231) (hd:day≤100000) (d0:0≤day) :
 ∃L X:Int,L=day-ys j∧X=yd (1970+(j:Int))∧0≤L∧L≤100000∧365≤X∧X≤366∧(j<231→¬L<X)∧L-X=day-ys (j+1):=by
 have a:=ys_mono (show j≤K by omega)
 have b2:=ys_bd j
 have d:=yd_bd (1970+(j:Int))
 have e:=ys_succ j
 refine ⟨_,_,rfl,rfl,by omega,by omega,by omega,by omega,fun h=>?_,by omega⟩
 have:=ys_mono (show j+1≤K by omega)
 omega
set_option maxRecDepth 100000 in
set_option maxHeartbeats 4000000 in
theorem impl_dateof_past (day:Int) (K:Nat) (d0:0≤day) (d1:day≤100000) (h1:ys K≤day) (hK:231≤K) (w:World) :
 Calls Tryz.prog 210 #[.int .i64 day] w fun e w'=>e=.returned (date 0 0 0)∧Below w.heap.size w w':=by
 have HB0:=hid_intro ((Below.refl w.heap.size w).alloc (Nat.le_refl _) (Obj.cells #[.int .i64 0,.int .i64 0,.int .i64 0] 208))
 have HH:=hid_intro (fun j hj=>past_year day j K h1 hK hj d1 d0)
 clear h1 hK
 go_enter Tryz.func210,Tryz.ntmps210
 go_wp2_with (first|(go_at_call 211;go_in)|(go_at_call 66;go_in))
 go_loop [3,11] (fun x z=>∃j:Nat,j≤231∧z=.int .i64 j∧x=.int .i64 (day-ys j)) (fun _ z=>232-(intOf z).toNat)
 case atStart=>exact ⟨0,by omega,rfl,by simp [ys]⟩
 case round =>
  obtain ⟨j,hj,rfl,rfl⟩:=hrel
  obtain ⟨L,X,hLe,hX,l0,l1,x0,x1,f1,f3⟩:=HH.out j hj
  have HI:=hid_intro (fun w=>impl_yd (1970+(j:Int)) w)
  rw [←hX] at HI
  rw [←hLe]
  have HF:=hid_intro f3
  clear hLe hX f3
  by_cases hlt:j<231
  ·have hn:=f1 hlt
   have j2:(j:Int)<231:=by omega
   clear f1
   go_wp2_with (go_at_call 212;refine (HI.out _).mono ?_;rintro e w' ⟨rfl,rfl⟩)
   go_round
   case rel=>exact ⟨j+1,by omega,by go_num,by rw [HF.out]⟩
   case measure=>simp [intOf];omega
  ·have j2:¬(j:Int)<231:=by omega
   clear f1
   go_wp2_with fail
   refine bodyPost_ret (v:=date 0 0 0) (by simp [date,results,Tryz.results210,go_sem]) rfl ⟨rfl,?_⟩
   repeat' first|exact HB0.out|apply Below.setCell
   all_goals first|exact Nat.le_refl _|exact (Below.refl _ _).alloc (Nat.le_refl _) _
theorem impl_dateof_none (day:Int) (h:day<0∨100000<day) (w:World) :
 Calls Tryz.prog 210 #[.int .i64 day] w fun e w'=>e=.returned (date 0 0 0)∧Below w.heap.size w w':=by
 have key:(¬0≤day)∨(0≤day∧¬day≤100000):=by omega
 clear h
 rcases key with h1|⟨h1,h2⟩
 all_goals
  go_enter Tryz.func210,Tryz.ntmps210
  go_wp2
  refine bodyPost_ret (v:=date 0 0 0) (by simp [date,results,Tryz.results210,go_sem]) rfl ⟨rfl,?_⟩
  repeat' first|exact Below.refl _ _|apply Below.setCell|apply Below.alloc
  all_goals first|omega|(simp;done)|(simp;omega)
end DateR
namespace DateR
open DateM
structure Two (w wr:World) (y m:Int):Prop where
 bel:Below w.heap.size w wr
 lt:w.heap.size+1<wr.heap.size
 r0:wr.cell? ⟨w.heap.size,0,none⟩=some (.int .i64 0)
 r1:wr.cell? ⟨w.heap.size,1,none⟩=some (.int .i64 0)
 r2:wr.cell? ⟨w.heap.size,2,none⟩=some (.int .i64 0)
 c0:wr.cell? ⟨w.heap.size+1,0,none⟩=some (.int .i64 y)
 c1:wr.cell? ⟨w.heap.size+1,1,none⟩=some (.int .i64 m)
 c2:wr.cell? ⟨w.heap.size+1,2,none⟩=some (.int .i64 0)
 f0:wr.frozen? ⟨w.heap.size,0,none⟩=false
 f1:wr.frozen? ⟨w.heap.size,1,none⟩=false
 f2:wr.frozen? ⟨w.heap.size,2,none⟩=false
 g0:wr.frozen? ⟨w.heap.size+1,0,none⟩=false
 g1:wr.frozen? ⟨w.heap.size+1,1,none⟩=false
 g2:wr.frozen? ⟨w.heap.size+1,2,none⟩=false
theorem Two.start (w:World):Two w ((w.alloc (Obj.cells #[.int .i64 0,.int .i64 0,.int .i64 0] 208)).alloc (Obj.cells #[.int .i64 1970,.int .i64 1,.int .i64 0] 208)) 1970 1 where
 bel:=((Below.refl _ _).alloc (Nat.le_refl _) _).alloc (by simp) _
 lt:=by simp
 r0:=by simp [go_sem]
 r1:=by simp [go_sem]
 r2:=by simp [go_sem]
 c0:=by simp [go_sem]
 c1:=by simp [go_sem]
 c2:=by simp [go_sem]
 f0:=by simp [go_sem]
 f1:=by simp [go_sem]
 f2:=by simp [go_sem]
 g0:=by simp [go_sem]
 g1:=by simp [go_sem]
 g2:=by simp [go_sem]
theorem Two.below {w w1 w2:World} {y m:Int} (h:Two w w1 y m) (hb:Below w1.heap.size w1 w2):Two w w2 y m where
 bel:=h.bel.trans (hb.mono h.bel.size)
 lt:=by have:=hb.size;have:=h.lt;omega
 r0:=(hb.cell (p:=⟨w.heap.size,0,none⟩) (by have:=h.lt;simp only;omega)).trans h.r0
 r1:=(hb.cell (p:=⟨w.heap.size,1,none⟩) (by have:=h.lt;simp only;omega)).trans h.r1
 r2:=(hb.cell (p:=⟨w.heap.size,2,none⟩) (by have:=h.lt;simp only;omega)).trans h.r2
 c0:=(hb.cell (p:=⟨w.heap.size+1,0,none⟩) h.lt).trans h.c0
 c1:=(hb.cell (p:=⟨w.heap.size+1,1,none⟩) h.lt).trans h.c1
 c2:=(hb.cell (p:=⟨w.heap.size+1,2,none⟩) h.lt).trans h.c2
 f0:=(hb.frozen (p:=⟨w.heap.size,0,none⟩) (by have:=h.lt;simp only;omega)).trans h.f0
 f1:=(hb.frozen (p:=⟨w.heap.size,1,none⟩) (by have:=h.lt;simp only;omega)).trans h.f1
 f2:=(hb.frozen (p:=⟨w.heap.size,2,none⟩) (by have:=h.lt;simp only;omega)).trans h.f2
 g0:=(hb.frozen (p:=⟨w.heap.size+1,0,none⟩) h.lt).trans h.g0
 g1:=(hb.frozen (p:=⟨w.heap.size+1,1,none⟩) h.lt).trans h.g1
 g2:=(hb.frozen (p:=⟨w.heap.size+1,2,none⟩) h.lt).trans h.g2
theorem Two.year {w wr:World} {y m:Int} (h:Two w wr y m) (v:Int):Two w (wr.setCell ⟨w.heap.size+1,0,none⟩ (.int .i64 v)) v m where
 bel:=h.bel.setCell (by simp) _
 lt:=by have:=h.lt;simpa using this
 r0:=by simp [go_sem,h.r0]
 r1:=by simp [go_sem,h.r1]
 r2:=by simp [go_sem,h.r2]
 c0:=by simp [go_sem,h.c0]
 c1:=by simp [go_sem,h.c1]
 c2:=by simp [go_sem,h.c2]
 f0:=by simp [go_sem,h.f0]
 f1:=by simp [go_sem,h.f1]
 f2:=by simp [go_sem,h.f2]
 g0:=by simp [go_sem,h.g0]
 g1:=by simp [go_sem,h.g1]
 g2:=by simp [go_sem,h.g2]
theorem Two.month {w wr:World} {y m:Int} (h:Two w wr y m) (v:Int):Two w (wr.setCell ⟨w.heap.size+1,1,none⟩ (.int .i64 v)) y v where
 bel:=h.bel.setCell (by simp) _
 lt:=by have:=h.lt;simpa using this
 r0:=by simp [go_sem,h.r0]
 r1:=by simp [go_sem,h.r1]
 r2:=by simp [go_sem,h.r2]
 c0:=by simp [go_sem,h.c0]
 c1:=by simp [go_sem,h.c1]
 c2:=by simp [go_sem,h.c2]
 f0:=by simp [go_sem,h.f0]
 f1:=by simp [go_sem,h.f1]
 f2:=by simp [go_sem,h.f2]
 g0:=by simp [go_sem,h.g0]
 g1:=by simp [go_sem,h.g1]
 g2:=by simp [go_sem,h.g2]
def outOf (day:Int) (K J:Nat):Value:=if K≤230 then date (1970+(K:Int)) ((J:Int)+1) (day-ys K-ms (1970+(K:Int)) J+1) else date 0 0 0
set_option maxRecDepth 100000 in
set_option maxHeartbeats 4000000 in
theorem spec_dateof_in (day:Int) (K J:Nat) (d0:0≤day) (d1:day≤100000) (h1:ys K≤day) (h2:day<ys (K+1)) (hm1:ms (1970+(K:Int)) J≤day-ys K) (hm2:day-ys K<ms (1970+(K:Int)) (J+1)) (hJ:J<12) (w:World) :
 Calls Tryz.prog 139 #[.int .i64 day] w fun e w'=>e=.returned (outOf day K J)∧Below w.heap.size w w':=by
 have HH:=hid_intro (fun j hj=>less_year day j K h1 h2 hj d1)
 have hK:K≤300:=by have:=ys_bd K;omega
 have HM:Hid (K≤230→∀j,j≤J→_):=hid_intro (fun hK j hj=>less_month (1970+(K:Int)) (day-ys K) j J hm1 hm2 hj hJ (by omega) (by omega))
 clear h1 h2 hm1 hm2
 have hT:=Two.start w
 obtain ⟨W,hW⟩:∃W,W=(w.alloc (Obj.cells #[.int .i64 0,.int .i64 0,.int .i64 0] 208)).alloc (Obj.cells #[.int .i64 1970,.int .i64 1,.int .i64 0] 208):=⟨_,rfl⟩
 rw [←hW] at hT
 have HT:=hid_intro hT
 have HW:=hid_intro hW
 clear hT hW
 go_enter Tryz.func139,Tryz.ntmps139
 go_wp2_with (first|(go_at_call 178;go_in)|(go_at_call 69;go_in))
 rw [←HW.out]
 go_loopw [0] (fun x wr=>∃j:Nat,j≤K∧x=.int .i64 (day-ys j)∧Hid (Two w wr (1970+(j:Int)) 1)) (fun x _=>(intOf x).toNat)
 case atStart=>exact ⟨0,by omega,by simp [ys],HT⟩
 case round =>
  obtain ⟨j,hj,rfl,HR⟩:=hrel
  obtain ⟨L,X,hLe,hX,l0,l1,x0,x1,f1,f2,f3⟩:=HH.out j hj
  have hc0:=HR.out.c0
  have hg0:=HR.out.g0
  have HI:=hid_intro (fun w=>spec_yd (1970+(j:Int)) w)
  rw [←hX] at HI
  rw [←hLe]
  have HF:=hid_intro f3
  have HLe:=hid_intro hLe
  have j2:(j:Int)≤300:=by omega
  clear hLe hX f3
  by_cases hlt:j<K
  ·have hn:=f1 hlt
   have hn2:X≤L:=by omega
   clear f1 f2
   go_wp2_with (go_at_call 179;refine (HI.out _).mono ?_;rintro e w' ⟨rfl,rfl⟩)
   go_roundw
   case rel=>exact ⟨j+1,by omega,by rw [HF.out],hid_intro (by have:=HR.out.year (1970+(j:Int)+1);rw [show (1970+((j+1:Nat):Int))=1970+(j:Int)+1 by omega];exact this)⟩
   case measure=>simp [intOf];omega
  ·obtain rfl:j=K:=by omega
   have hn:=f2 rfl
   have hn2:¬X≤L:=by omega
   clear f1 f2
   by_cases hp:j≤230
   ·have q1:(1970:Int)≤1970+(j:Int):=by omega
    have q2:(1970:Int)+(j:Int)≤2200:=by omega
    go_wp2_with (first|(go_at_call 179;refine (HI.out _).mono ?_;rintro e w' ⟨rfl,rfl⟩)|(go_at_call 180;refine (year_any _ _).mono ?_;rintro e w' ⟨rfl,rfl⟩))
    have HMJ:=hid_intro (HM.out hp)
    rw [←HLe.out] at HMJ
    have HO:Hid (date (1970+(j:Int)) ((J:Int)+1) (L-ms (1970+(j:Int)) J+1)=outOf day j J):=hid_intro (by rw [HLe.out];exact (if_pos hp).symm)
    clear HM HLe HF HH hn hn2 hc0 hg0
    go_loopw [0] (fun x wr=>∃i:Nat,i≤J∧x=.int .i64 (L-ms (1970+(j:Int)) i)∧Hid (Two w wr (1970+(j:Int)) ((i:Int)+1))) (fun x _=>(intOf x).toNat)
    case atStart=>exact ⟨0,by omega,by simp [ms],HR⟩
    case round =>
     obtain ⟨i,hi,rfl,HR2⟩:=hrel
     obtain ⟨Z,Y,hZe,hY,z0,z1,y0,y1,f1,f2,f3⟩:=HMJ.out i hi
     have hc0:=HR2.out.c0
     have hc1:=HR2.out.c1
     have hg1:=HR2.out.g1
     have HMD:=hid_intro (fun w=>spec_md (1970+(j:Int)) ((i:Int)+1) w)
     rw [←hY] at HMD
     rw [←hZe]
     have HF:=hid_intro f3
     have HZe:=hid_intro hZe
     have i2:(i:Int)<12:=by omega
     clear hZe hY f3
     by_cases hlt2:i<J
     ·have hn:=f1 hlt2
      have hn2:Y≤Z:=by omega
      have i3:(i:Int)+1<12:=by omega
      clear f1 f2
      go_wp2_with fail
      refine (HMD.out _).mono ?_
      rintro e w2 ⟨rfl,hb2⟩
      have HR3:=hid_intro (HR2.out.below hb2)
      have hc0:=HR3.out.c0
      have hc1:=HR3.out.c1
      have hg1:=HR3.out.g1
      clear hb2
      go_wp2_with fail
      refine (HMD.out _).mono ?_
      rintro e w3 ⟨rfl,hb3⟩
      have HR4:=hid_intro (HR3.out.below hb3)
      have hc0:=HR4.out.c0
      have hc1:=HR4.out.c1
      have hg1:=HR4.out.g1
      clear hb3
      go_wp2_with fail
      go_roundw
      case rel=>exact ⟨i+1,by omega,by rw [HF.out],hid_intro (by have:=HR4.out.month ((i:Int)+1+1);rw [show (((i+1:Nat):Int)+1)=(i:Int)+1+1 by omega];exact this)⟩
      case measure=>simp [intOf];omega
     ·obtain rfl:i=J:=by omega
      have hn:=f2 rfl
      have hn2:¬Y≤Z:=by omega
      clear f1 f2
      rw [←HZe.out] at HO
      by_cases hl:i=11
      ·subst hl
       have hc2:=HR2.out.c2
       have hg2:=HR2.out.g2
       have r0:=HR2.out.r0
       have r1:=HR2.out.r1
       have r2:=HR2.out.r2
       have e0:=HR2.out.f0
       have e1:=HR2.out.f1
       have e2:=HR2.out.f2
       go_wp2_with fail
       refine bodyPost_ret (v:=date (1970+(j:Int)) 12 (Z+1)) (by simp [date,results,Tryz.results139,go_sem,r0,r1,r2]) rfl ⟨by rw [←HO.out];rfl,?_⟩
       repeat' first|exact HR2.out.bel|apply Below.setCell
       all_goals simp
      ·have i3:(i:Int)+1<12:=by omega
       go_wp2_with fail
       refine (HMD.out _).mono ?_
       rintro e w2 ⟨rfl,hb2⟩
       have HR3:=hid_intro (HR2.out.below hb2)
       have hc0:=HR3.out.c0
       have hc1:=HR3.out.c1
       have hc2:=HR3.out.c2
       have hg2:=HR3.out.g2
       have r0:=HR3.out.r0
       have r1:=HR3.out.r1
       have r2:=HR3.out.r2
       have e0:=HR3.out.f0
       have e1:=HR3.out.f1
       have e2:=HR3.out.f2
       clear hb2
       go_wp2_with fail
       refine bodyPost_ret (v:=date (1970+(j:Int)) ((i:Int)+1) (Z+1)) (by simp [date,results,Tryz.results139,go_sem,r0,r1,r2]) rfl ⟨by rw [←HO.out],?_⟩
       repeat' first|exact HR3.out.bel|apply Below.setCell
       all_goals simp
   ·have q1:(1970:Int)≤1970+(j:Int):=by omega
    have q2:¬(1970:Int)+(j:Int)≤2200:=by omega
    have q3:decide ((1970:Int)+(j:Int)≤2200)=false:=decide_eq_false q2
    have r0:=HR.out.r0
    have r1:=HR.out.r1
    have r2:=HR.out.r2
    have e0:=HR.out.f0
    have e1:=HR.out.f1
    have e2:=HR.out.f2
    have HO:Hid (date 0 0 0=outOf day j J):=hid_intro (if_neg hp).symm
    go_wp2_with (first|(go_at_call 179;refine (HI.out _).mono ?_;rintro e w' ⟨rfl,rfl⟩)|(go_at_call 180;refine (year_any _ _).mono ?_;rintro e w' ⟨rfl,rfl⟩))
    refine bodyPost_ret (v:=date 0 0 0) (by simp [date,results,Tryz.results139,go_sem,r0,r1,r2]) rfl ⟨by rw [HO.out],?_⟩
    repeat' first|exact HR.out.bel|apply Below.setCell
    all_goals exact Nat.le_refl _
end DateR
namespace DateR
open DateM
theorem spec_dateof_none (day:Int) (h:day<0∨100000<day) (w:World) :
 Calls Tryz.prog 139 #[.int .i64 day] w fun e w'=>e=.returned (date 0 0 0)∧Below w.heap.size w w':=by
 have key:(¬0≤day)∨(0≤day∧¬day≤100000):=by omega
 clear h
 rcases key with h1|⟨h1,h2⟩
 all_goals
  go_enter Tryz.func139,Tryz.ntmps139
  go_wp2
  refine bodyPost_ret (v:=date 0 0 0) (by simp [date,results,Tryz.results139,go_sem]) rfl ⟨rfl,?_⟩
  repeat' first|exact Below.refl _ _|apply Below.setCell|apply Below.alloc
  all_goals first|omega|(simp;done)|(simp;omega)
theorem num_of (day:Int) (K J:Nat) (hK:K≤230) (hJ:J<12) (m1:ms (1970+(K:Int)) J≤day-ys K) (m2:day-ys K<ms (1970+(K:Int)) (J+1)) :
 rightB (1970+(K:Int)) ((J:Int)+1) (day-ys K-ms (1970+(K:Int)) J+1)=true∧num (1970+(K:Int)) ((J:Int)+1) (day-ys K-ms (1970+(K:Int)) J+1)=day:=by
 have e:=ms_succ (1970+(K:Int)) J
 refine ⟨(right_iff _ _ _).2 ⟨by omega,by omega,by omega,by omega,by omega,by omega⟩,?_⟩
 unfold num
 rw [show (1970+(K:Int)-1970).toNat=K by omega,show ((J:Int)+1-1).toNat=J by omega]
 omega
def DateOfIs (day y m d:Int):Prop:=(0≤day∧day<ys 231∧rightB y m d=true∧num y m d=day)∨(¬(0≤day∧day<ys 231)∧y=0∧m=0∧d=0)
theorem ys231:ys 231≤100000:=by have:=ys_bd 231;omega
theorem dateof_both (day:Int):∃y m d:Int,DateOfIs day y m d∧(∀w,Laid w→Calls Tryz.prog 210 #[.int .i64 day] w fun e w'=>e=.returned (date y m d)∧Below w.heap.size w w')∧(∀w,Calls Tryz.prog 139 #[.int .i64 day] w fun e w'=>e=.returned (date y m d)∧Below w.heap.size w w'):=by
 by_cases h:day<0∨100000<day
 ·have:=ys231
  exact ⟨0,0,0,.inr ⟨by omega,rfl,rfl,rfl⟩,fun w _=>impl_dateof_none day h w,fun w=>spec_dateof_none day h w⟩
 ·have d0:0≤day:=by omega
  have d1:day≤100000:=by omega
  obtain ⟨K,h1,h2⟩:=year_is day d0
  obtain ⟨J,hJ,m1,m2⟩:=month_is (1970+(K:Int)) (day-ys K) (by omega) (by have:=ys_succ K;omega)
  have hs:=fun w=>spec_dateof_in day K J d0 d1 h1 h2 m1 m2 hJ w
  unfold outOf at hs
  by_cases hK:K≤230
  ·rw [if_pos hK] at hs
   obtain ⟨n1,n2⟩:=num_of day K J hK hJ m1 m2
   have:=ys_mono (show K+1≤231 by omega)
   exact ⟨_,_,_,.inl ⟨d0,by omega,n1,n2⟩,fun w hL=>impl_dateof_in day K J d0 d1 h1 h2 hK m1 m2 hJ w hL,hs⟩
  ·rw [if_neg hK] at hs
   have:=ys_mono (show 231≤K by omega)
   exact ⟨0,0,0,.inr ⟨by omega,rfl,rfl,rfl⟩,fun w _=>impl_dateof_past day K d0 d1 h1 (by omega) w,hs⟩
end DateR
namespace WinR
open DateM DateR
theorem impl_month_in (n y m d:Int) (h1:0≤n) (h2:n≤121000000) (hy1:1970≤y) (hy2:y≤2200) (hm1:1≤m) (hm2:m≤12) (w:World) (hL:Laid w)
 (hd:∀w,Laid w→Calls Tryz.prog 210 #[.int .i64 (n.tdiv 1440)] w fun e w'=>e=.returned (date y m d)∧Below w.heap.size w w') :
 Calls Tryz.prog 204 #[.int .i64 n] w fun e w'=>e=.returned (.int .i64 (12*(y-1970)+(m-1)))∧Below w.heap.size w w':=by
 have hb:0≤n.tdiv 1440∧n.tdiv 1440≤121000000:=by rw [Int.tdiv_eq_ediv_of_nonneg h1];omega
 obtain ⟨b1,b2⟩:=hb
 generalize hq:n.tdiv 1440=q at *
 have HD:=hid_intro hd
 have HL:=hid_intro hL
 clear hd hL
 unfold date at *
 go_enter Tryz.func204,Tryz.ntmps204
 go_wp2_with (first|(go_at_call 209;go_in)|(go_at_call 66;go_in)|(go_at_call 210;(try rw [hq]);refine (HD.out _ HL.out).mono ?_;rintro e w1 ⟨rfl,hb1⟩))
 go_ret
 exact ⟨ret_int (by omega),hb1.alloc hb1.size _⟩
theorem spec_month_in (n y m d:Int) (h1:0≤n) (h2:n≤121000000) (hy1:1970≤y) (hy2:y≤2200) (hm1:1≤m) (hm2:m≤12) (w:World)
 (hd:∀w,Calls Tryz.prog 139 #[.int .i64 (n.tdiv 1440)] w fun e w'=>e=.returned (date y m d)∧Below w.heap.size w w') :
 Calls Tryz.prog 114 #[.int .i64 n] w fun e w'=>e=.returned (.int .i64 (12*(y-1970)+(m-1)))∧Below w.heap.size w w':=by
 have hb:0≤n.tdiv 1440∧n.tdiv 1440≤121000000:=by rw [Int.tdiv_eq_ediv_of_nonneg h1];omega
 obtain ⟨b1,b2⟩:=hb
 generalize hq:n.tdiv 1440=q at *
 have HD:=hid_intro hd
 clear hd
 unfold date at *
 go_enter Tryz.func114,Tryz.ntmps114
 go_wp2_with (first|(go_at_call 139;(try rw [hq]);refine (HD.out _).mono ?_;rintro e w1 ⟨rfl,hb1⟩))
 go_ret
 exact ⟨ret_int (by omega),hb1.alloc hb1.size _⟩
theorem month_two (n:Int) (h1:0≤n) (h2:n≤121000000):∃k:Nat,k≤2771∧fd k≤n / 1440∧n / 1440<fd (k+1)∧(∀w,Laid w→Calls Tryz.prog 204 #[.int .i64 n] w fun e w'=>e=.returned (.int .i64 (k:Int))∧Below w.heap.size w w')∧(∀w,Calls Tryz.prog 114 #[.int .i64 n] w fun e w'=>e=.returned (.int .i64 (k:Int))∧Below w.heap.size w w'):=by
 obtain ⟨y,m,d,hd,hi,hs⟩:=dateof_both (n.tdiv 1440)
 have e:n.tdiv 1440=n / 1440:=Int.tdiv_eq_ediv_of_nonneg h1
 have:=ys_231
 rcases hd with ⟨_,_,hr,hn⟩|⟨hx,_⟩
 ·obtain ⟨k,k1,k2,k3,k4⟩:=num_fd y m d hr
  obtain ⟨y1,y2,m1,m2,_,_⟩:=(right_iff y m d).1 hr
  exact ⟨k,k1,by omega,by omega,fun w hL=>by rw [←k2];exact impl_month_in n y m d h1 h2 y1 y2 m1 m2 w hL hi,fun w=>by rw [←k2];exact spec_month_in n y m d h1 h2 y1 y2 m1 m2 w hs⟩
 ·omega
theorem impl_hour_of (h mo:Int) (w:World) (hL:Laid w) :
 Calls Tryz.prog 191 #[.int .i64 h,.int .i64 mo] w fun e w'=>e=.returned (.bool (hourIn h mo))∧Below w.heap.size w w':=by
 rcases (show (¬0≤h)∨(0≤h∧¬h≤2016666)∨(0≤h∧h≤2016666) by omega) with q|⟨q,q2⟩|⟨q,q2⟩
 ·rw [hour_far (fun x=>q x.1)]
  clear hL
  go_enter Tryz.func191,Tryz.ntmps191
  go_wp2_with (go_at_call 66;go_in)
  go_ret
  exact ⟨rfl,Below.refl _ _⟩
 ·rw [hour_far (fun x=>q2 x.2)]
  clear hL
  go_enter Tryz.func191,Tryz.ntmps191
  go_wp2_with (go_at_call 66;go_in)
  go_ret
  exact ⟨rfl,Below.refl _ _⟩
 ·obtain ⟨k,k1,f1,f2,hi,hs⟩:=month_two (60*h) (by omega) (by omega)
  rw [hour_month q q2 k rfl f1 f2]
  have HI:=hid_intro (hi w hL)
  clear hL hi hs f1 f2
  have hm:h*60=60*h:=by omega
  generalize hq:60*h=n at *
  by_cases he:(k:Int)=mo
  ·subst he
   rw [decide_eq_true rfl]
   go_enter Tryz.func191,Tryz.ntmps191
   go_wp2_with (first|(go_at_call 66;go_in)|(go_at_call 204;(try rw [hm]);refine HI.out.mono ?_;rintro e w1 ⟨rfl,hb1⟩))
   go_ret
   exact ⟨rfl,hb1⟩
  ·rw [decide_eq_false he]
   have he2:((k:Int)==mo)=false:=by simpa using he
   go_enter Tryz.func191,Tryz.ntmps191
   go_wp2_with (first|(go_at_call 66;go_in)|(go_at_call 204;(try rw [hm]);refine HI.out.mono ?_;rintro e w1 ⟨rfl,hb1⟩))
   go_ret
   exact ⟨ret_bool (by first|rfl|simpa using he),hb1⟩
end WinR
end Go.Proofs.YtcilbmhkhllmjaaGreatDoor
