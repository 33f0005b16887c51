/-
  Windows that the law is given: the law's own copies, and windows held against each other.
  Tiers, meters, credits and catalogs that came in, read as rows.
  A window that came in, read as rows.
  What is right of tiers, meters, credits and catalogs, in numbers.
  What the program and the model call right tiers, and a right meter: they are one.
  The conditions stand in what each theorem says.
-/
import Derived.Deep.Fields
import Derived.OpenVars
import Derived.Carry
import Derived.ChangeMaps5
import Derived.Lib.SmallJoins
import Derived.DataReads
import Derived.Deep.RegionWith
import Derived.BigQuiet
import Derived.Deep.QuietTactic
import Derived.Test.YtnceeaccbcfopaaGreatDoorT5
set_option maxRecDepth 100000
set_option maxHeartbeats 16000000
namespace Go.Proofs.YtnceeaccbcfopaaGreatDoor
open Go.ChangeShapes Go.WideShapes Go.ChangeAt Go.RowKit
set_option linter.unusedVariables false
namespace WinR
open RowG
open EvtR (Pt)
open CatR (Blk Blk.new)
def BlkW (b:Nat) (cs:List Value) (w:World):Prop:=Blk b cs w∧∀i,i<cs.length→w.frozen? ⟨b,i,none⟩=false
theorem BlkW.below {b:Nat} {cs:List Value} {w w':World} (h:BlkW b cs w) (hb:Below w.heap.size w w'):BlkW b cs w' :=
 ⟨h.1.below hb,fun i hi=>(hb.frozen (p:=⟨b,i,none⟩) h.1.1).trans (h.2 i hi)⟩
theorem BlkW.new (w:World) (cs:List Value) (T:TypeId):BlkW w.heap.size cs (w.alloc (.cells cs.toArray T)) :=
 ⟨Blk.new w cs T,fun i hi=>by simp [go_sem]⟩
theorem BlkW.set {b:Nat} {cs:List Value} {w:World} (h:BlkW b cs w) (o:Nat) (v:Value) (ho:o<cs.length):BlkW b (cs.set o v) (w.setCell ⟨b,o,none⟩ v):=by
 obtain ⟨⟨hl,hc⟩,hf⟩:=h
 refine ⟨⟨by simpa using hl,fun i hi=>?_⟩,fun i hi=>?_⟩
 ·rw [List.length_set] at hi
  by_cases e:o=i
  ·subst e
   have:=hc o hi
   rw [List.getElem?_eq_getElem hi] at this
   rw [List.getElem?_set_self ho]
   simp [go_sem,this]
  ·rw [List.getElem?_set_ne e,←hc i hi]
   simp [go_sem]
 ·rw [List.length_set] at hi
  have:=hf i hi
  simp [go_sem,this]
theorem BlkW.other {b:Nat} {cs:List Value} {w:World} (h:BlkW b cs w) (g o:Nat) (v:Value) (hg:g≠b):BlkW b cs (w.setCell ⟨g,o,none⟩ v):=by
 have e:=(grown_set w g o v).block b h.1.1 (by simp;exact fun q=>hg q.symm)
 exact ⟨⟨by simpa using h.1.1,fun i hi=>(World.cell?_of_block (a:=⟨b,i,none⟩) e).trans (h.1.2 i hi)⟩,fun i hi=>(World.frozen?_of_block (a:=⟨b,i,none⟩) e).trans (h.2 i hi)⟩
theorem Rws.put {α:Type} {k:Nat} {cells:α→List Value} {z:α} {ao:Option Addr} {xs:List α} {w:World} (h:Rws k cells z ao xs w) (g o:Nat) (v:Value) (hne:xs.length=0∨∀b off,ao=some ⟨b,off,none⟩→b≠g):Rws k cells z ao xs (w.setCell ⟨g,o,none⟩ v) :=
 h.grown (grown_set w g o v) (hne.imp id (fun hn b off e q=>hn b off e (by simpa using q)))
theorem MadeG.put {α:Type} {k:Nat} {cells:α→List Value} {z:α} {base:Nat} {ao:Option Addr} {xs:List α} {w:World} (h:MadeG k cells z base ao xs w) (g o:Nat) (v:Value) (hne:xs.length=0∨∀b off,ao=some ⟨b,off,none⟩→b≠g):MadeG k cells z base ao xs (w.setCell ⟨g,o,none⟩ v):=by
 refine ⟨Rws.put h.rws g o v hne,?_⟩
 rcases h.own with h0|⟨b,e1,e2,e3⟩
 ·exact .inl h0
 ·rcases hne with h0|hn
  ·exact .inl h0
  have e:=(grown_set w g o v).block b e3.lt (by simp;exact fun q=>hn b 0 e1 q)
  exact .inr ⟨b,e1,e2,by simpa using e3.lt,fun x hx=>by obtain ⟨u,hu⟩:=e3.has x hx;exact ⟨u,(World.cell?_of_block (a:=⟨b,x,none⟩) e).trans hu⟩,fun x hx=>(World.frozen?_of_block (a:=⟨b,x,none⟩) e).trans (e3.free x hx)⟩
def Apart (ta ha:Option Addr) (tl hl:Nat):Prop:=tl=0∨hl=0∨∀b o b' o',ta=some ⟨b,o,none⟩→ha=some ⟨b',o',none⟩→b≠b'
def MadeW (base:Nat) (x:Wd) (v:Value) (w:World):Prop:=∃ta tc ha hc,v=.agg (wcells x ta tc ha hc)∧MadeG 1 tcells tz base ta x.ts w∧MadeG 2 H.cells H.zero base ha x.hs w∧Apart ta ha x.ts.length x.hs.length
theorem MadeW.below {base:Nat} {x:Wd} {v:Value} {w w':World} (h:MadeW base x v w) (hb:Below w.heap.size w w'):MadeW base x v w':=by
 obtain ⟨ta,tc,ha,hc,hv,h1,h2,h3⟩:=h
 exact ⟨ta,tc,ha,hc,hv,h1.below hb,h2.below hb,h3⟩
theorem MadeW.low {base base':Nat} {x:Wd} {v:Value} {w:World} (h:MadeW base x v w) (hb:base'≤base):MadeW base' x v w:=by
 obtain ⟨ta,tc,ha,hc,hv,h1,h2,h3⟩:=h
 exact ⟨ta,tc,ha,hc,hv,h1.low hb,h2.low hb,h3⟩
theorem MadeW.is {base:Nat} {x:Wd} {v:Value} {w:World} (h:MadeW base x v w):IsWd v x w:=by
 obtain ⟨ta,tc,ha,hc,hv,h1,h2,h3⟩:=h
 exact ⟨ta,tc,ha,hc,hv,h1.rws,h2.rws⟩
theorem toW_in (a m:ByteArray) (mo ev su mx:Int) (ta:Option Addr) (ts:List ByteArray) (tc:Nat) (ha:Option Addr) (hs:List H) (hc:Nat) (w:World) (ht:ts.length≤1048576) (hh:hs.length≤1048576) (hT:Tgs ta ts w) (hH:Hrs ha hs w) :
 Calls Tryz.prog 68 #[.agg #[.string a,.string m,.int .i64 mo,.int .i64 ev,.int .i64 su,.int .i64 mx,.slice ta ts.length tc,.slice ha hs.length hc]] w fun e w'=>∃v,e=.returned v∧MadeW w.heap.size ⟨a,m,mo,ev,su,mx,ts,hs⟩ v w'∧Below w.heap.size w w':=by
 have H1:=H_ (fun W (hW:Below w.heap.size w W)=>toTs_any ta tc ts W ht (hT.below hW))
 have H2:=H_ (fun W (hW:Below w.heap.size w W)=>toHs_any ha hc hs W hh (hH.below hW))
 have HF:Hid (∀W g1 g2,w.heap.size≤g1→w.heap.size≤g2→g1≠g2→MadeG 1 tcells tz g1 (some ⟨g1,0,none⟩) ts W→MadeG 2 H.cells H.zero g2 (some ⟨g2,0,none⟩) hs W→MadeW w.heap.size ⟨a,m,mo,ev,su,mx,ts,hs⟩ (.agg #[.string a,.string m,.int .i64 mo,.int .i64 ev,.int .i64 su,.int .i64 mx,.slice (some ⟨g1,0,none⟩) ts.length ts.length,.slice (some ⟨g2,0,none⟩) hs.length hs.length]) W):=H_ (fun W g1 g2 l1 l2 hn m1 m2 =>
  ⟨_,_,_,_,rfl,m1.low l1,m2.low l2,.inr (.inr (fun b o b' o' e1 e2=>by simp at e1 e2;omega))⟩)
 generalize MadeW w.heap.size ⟨a,m,mo,ev,su,mx,ts,hs⟩=M at *
 obtain ⟨tl,htl⟩:∃tl,tl=ts.length:=⟨_,rfl⟩
 obtain ⟨hl,hhl⟩:∃hl,hl=hs.length:=⟨_,rfl⟩
 have HTL:=H_ htl
 have HHL:=H_ hhl
 rw [←htl] at ht H1 HF ⊢
 rw [←hhl] at hh H2 HF ⊢
 clear hT hH htl hhl
 have HB0:Hid (Below w.heap.size w (((w.alloc (.cells #[.string a,.string m,.int .i64 mo,.int .i64 ev,.int .i64 su,.int .i64 mx,.slice ta tl tc,.slice ha hl hc] 95)).alloc (.cells #[.string ⟨#[]⟩,.string ⟨#[]⟩,.int .i64 0,.int .i64 0,.int .i64 0,.int .i64 0,.slice none 0 0,.slice none 0 0] 106)).alloc (.cells #[.string a,.string m,.int .i64 mo,.int .i64 ev,.int .i64 su,.int .i64 mx,.slice none 0 0,.slice none 0 0] 106))):=H_ (((al_ _ _).alloc (by simp) _).alloc (by simp;omega) _)
 have HX0:=H_ (((BlkW.new w [.string a,.string m,.int .i64 mo,.int .i64 ev,.int .i64 su,.int .i64 mx,.slice ta tl tc,.slice ha hl hc] 95).below ((Below.refl _ _).alloc (Nat.le_refl _) (Obj.cells #[.string ⟨#[]⟩,.string ⟨#[]⟩,.int .i64 0,.int .i64 0,.int .i64 0,.int .i64 0,.slice none 0 0,.slice none 0 0] 106))).below ((Below.refl _ _).alloc (Nat.le_refl _) (Obj.cells #[.string a,.string m,.int .i64 mo,.int .i64 ev,.int .i64 su,.int .i64 mx,.slice none 0 0,.slice none 0 0] 106)))
 have HY0:=H_ ((BlkW.new (w.alloc (.cells #[.string a,.string m,.int .i64 mo,.int .i64 ev,.int .i64 su,.int .i64 mx,.slice ta tl tc,.slice ha hl hc] 95)) [.string ⟨#[]⟩,.string ⟨#[]⟩,.int .i64 0,.int .i64 0,.int .i64 0,.int .i64 0,.slice none 0 0,.slice none 0 0] 106).below ((Below.refl _ _).alloc (Nat.le_refl _) (Obj.cells #[.string a,.string m,.int .i64 mo,.int .i64 ev,.int .i64 su,.int .i64 mx,.slice none 0 0,.slice none 0 0] 106)))
 have HZ0:=H_ (BlkW.new ((w.alloc (.cells #[.string a,.string m,.int .i64 mo,.int .i64 ev,.int .i64 su,.int .i64 mx,.slice ta tl tc,.slice ha hl hc] 95)).alloc (.cells #[.string ⟨#[]⟩,.string ⟨#[]⟩,.int .i64 0,.int .i64 0,.int .i64 0,.int .i64 0,.slice none 0 0,.slice none 0 0] 106)) [.string a,.string m,.int .i64 mo,.int .i64 ev,.int .i64 su,.int .i64 mx,.slice none 0 0,.slice none 0 0] 106)
 have e1:(w.alloc (.cells #[.string a,.string m,.int .i64 mo,.int .i64 ev,.int .i64 su,.int .i64 mx,.slice ta tl tc,.slice ha hl hc] 95)).heap.size=w.heap.size+1:=by simp
 have e2:((w.alloc (.cells #[.string a,.string m,.int .i64 mo,.int .i64 ev,.int .i64 su,.int .i64 mx,.slice ta tl tc,.slice ha hl hc] 95)).alloc (.cells #[.string ⟨#[]⟩,.string ⟨#[]⟩,.int .i64 0,.int .i64 0,.int .i64 0,.int .i64 0,.slice none 0 0,.slice none 0 0] 106)).heap.size=w.heap.size+1+1:=by simp
 rw [e1] at HY0
 rw [e2] at HZ0
 clear e1 e2
 go_enter Tryz.func68,Tryz.ntmps68
 go_wp2_with fail
 refine (H1.out _ HB0.out).mono ?_
 rintro e w1 ⟨rfl,hT1,hP1,hb1⟩
 have HM1:=H_ (show MadeG 1 tcells tz _ _ ts w1 from ⟨hT1,.inr ⟨_,rfl,Nat.le_refl _,by rw [Nat.mul_one];exact HTL.out ▸ hP1⟩⟩)
 obtain ⟨g1,hg1⟩:∃g1,g1=(((w.alloc (.cells #[.string a,.string m,.int .i64 mo,.int .i64 ev,.int .i64 su,.int .i64 mx,.slice ta tl tc,.slice ha hl hc] 95)).alloc (.cells #[.string ⟨#[]⟩,.string ⟨#[]⟩,.int .i64 0,.int .i64 0,.int .i64 0,.int .i64 0,.slice none 0 0,.slice none 0 0] 106)).alloc (.cells #[.string a,.string m,.int .i64 mo,.int .i64 ev,.int .i64 su,.int .i64 mx,.slice none 0 0,.slice none 0 0] 106)).heap.size:=⟨_,rfl⟩
 have HG1:Hid (w.heap.size+3=g1):=H_ (by rw [hg1];simp)
 have HG1b:Hid (g1<w1.heap.size):=H_ (by rw [hg1];exact hP1.lt)
 rw [←hg1] at HM1 ⊢
 clear hg1
 have HX1:=H_ (HX0.out.below hb1)
 have HY1:=H_ ((HY0.out.below hb1).other (w.heap.size+1+1) 6 (.slice (some ⟨g1,0,none⟩) tl tl) (by omega))
 have HZ1:=H_ ((HZ0.out.below hb1).set 6 (.slice (some ⟨g1,0,none⟩) tl tl) (by simp))
 have HZ1':=H_ (HZ0.out.below hb1)
 have HB1:Hid (Below w.heap.size w (w1.setCell ⟨w.heap.size+1+1,6,none⟩ (.slice (some ⟨g1,0,none⟩) tl tl))):=H_ ((HB0.out.trans (hb1.mono HB0.out.size)).setCell (by simp;omega) _)
 obtain ⟨⟨xl,xc⟩,_⟩:=HX1.out
 have x7:=q_ xc 7
 obtain ⟨⟨zl,zk⟩,zf⟩:=HZ1'.out
 have z6:=q_ zk 6
 have f6:=zf 6 (by simp)
 clear xc zk zf hT1 hP1 hb1 HZ1' HX0 HY0 HZ0 HX1
 replace HM1:=H_ (MadeG.put HM1.out (w.heap.size+1+1) 6 (.slice (some ⟨g1,0,none⟩) tl tl) (.inr (fun b off e=>by simp at e;have:=HG1.out;omega)))
 go_wp2_with fail
 refine (H2.out _ HB1.out).mono ?_
 rintro e w2 ⟨rfl,hT2,hP2,hb2⟩
 have HM2:=H_ (show MadeG 2 H.cells H.zero _ _ hs w2 from ⟨hT2,.inr ⟨_,rfl,Nat.le_refl _,HHL.out ▸ hP2⟩⟩)
 obtain ⟨g2,hg2⟩:∃g2,g2=(w1.setCell ⟨w.heap.size+1+1,6,none⟩ (.slice (some ⟨g1,0,none⟩) tl tl)).heap.size:=⟨_,rfl⟩
 have HG2:Hid (g1<g2):=H_ (by rw [hg2];simpa using HG1b.out)
 rw [←hg2] at HM2 ⊢
 clear hg2
 replace HM1:=H_ (HM1.out.below hb2)
 replace HY1:=H_ (HY1.out.below hb2)
 replace HZ1:=H_ (HZ1.out.below hb2)
 replace HB1:=HT_ HB1 hb2
 clear hT2 hP2 hb2 x7 z6 f6 xl zl
 obtain ⟨⟨zl,zk⟩,zf⟩:=HZ1.out
 have z0:=q_ zk 0
 have z1:=q_ zk 1
 have z2:=q_ zk 2
 have z3:=q_ zk 3
 have z4:=q_ zk 4
 have z5:=q_ zk 5
 have z6:=q_ zk 6
 have z7:=q_ zk 7
 have f7:=zf 7 (by simp)
 obtain ⟨⟨yl,yk⟩,yf⟩:=HY1.out
 have y0:=q_ yk 0
 have q0:=yf 0 (by simp)
 have y1:=q_ yk 1
 have q1:=yf 1 (by simp)
 have y2:=q_ yk 2
 have q2:=yf 2 (by simp)
 have y3:=q_ yk 3
 have q3:=yf 3 (by simp)
 have y4:=q_ yk 4
 have q4:=yf 4 (by simp)
 have y5:=q_ yk 5
 have q5:=yf 5 (by simp)
 have y6:=q_ yk 6
 have q6:=yf 6 (by simp)
 have y7:=q_ yk 7
 have q7:=yf 7 (by simp)
 clear zk zf yk yf HY1 HZ1
 have HN1:Hid (∀b off,(some ⟨g1,0,none⟩:Option Addr)=some ⟨b,off,none⟩→∀g,g≤w.heap.size+1+1→b≠g):=H_ (fun b off e g hg=>by simp at e;have:=HG1.out;omega)
 have HN2:Hid (∀b off,(some ⟨g2,0,none⟩:Option Addr)=some ⟨b,off,none⟩→∀g,g≤w.heap.size+1+1→b≠g):=H_ (fun b off e g hg=>by simp at e;have:=HG1.out;have:=HG2.out;omega)
 go_wp2_with fail
 refine bodyPost_ret (v:=.agg #[.string a,.string m,.int .i64 mo,.int .i64 ev,.int .i64 su,.int .i64 mx,.slice (some ⟨g1,0,none⟩) tl tl,.slice (some ⟨g2,0,none⟩) hl hl]) (by simp [results,Tryz.results68,go_sem,y0,y1,y2,y3,y4,y5,y6,y7]) rfl ⟨_,rfl,HF.out _ g1 g2 (by have:=HG1.out;omega) (by have:=HG1.out;have:=HG2.out;omega) (by have:=HG2.out;omega) ?_ ?_,?_⟩
 ·exact (MadeG.put (MadeG.put (MadeG.put (MadeG.put (MadeG.put (MadeG.put (MadeG.put (MadeG.put (MadeG.put HM1.out _ _ _ (.inr (fun b off e=>HN1.out b off e _ (by omega)))) _ _ _ (.inr (fun b off e=>HN1.out b off e _ (by omega)))) _ _ _ (.inr (fun b off e=>HN1.out b off e _ (by omega)))) _ _ _ (.inr (fun b off e=>HN1.out b off e _ (by omega)))) _ _ _ (.inr (fun b off e=>HN1.out b off e _ (by omega)))) _ _ _ (.inr (fun b off e=>HN1.out b off e _ (by omega)))) _ _ _ (.inr (fun b off e=>HN1.out b off e _ (by omega)))) _ _ _ (.inr (fun b off e=>HN1.out b off e _ (by omega)))) _ _ _ (.inr (fun b off e=>HN1.out b off e _ (by omega))))
 ·exact (MadeG.put (MadeG.put (MadeG.put (MadeG.put (MadeG.put (MadeG.put (MadeG.put (MadeG.put (MadeG.put HM2.out _ _ _ (.inr (fun b off e=>HN2.out b off e _ (by omega)))) _ _ _ (.inr (fun b off e=>HN2.out b off e _ (by omega)))) _ _ _ (.inr (fun b off e=>HN2.out b off e _ (by omega)))) _ _ _ (.inr (fun b off e=>HN2.out b off e _ (by omega)))) _ _ _ (.inr (fun b off e=>HN2.out b off e _ (by omega)))) _ _ _ (.inr (fun b off e=>HN2.out b off e _ (by omega)))) _ _ _ (.inr (fun b off e=>HN2.out b off e _ (by omega)))) _ _ _ (.inr (fun b off e=>HN2.out b off e _ (by omega)))) _ _ _ (.inr (fun b off e=>HN2.out b off e _ (by omega))))
 ·exact (((((((((HB1.out.setCell (by simp;omega) _).setCell (by simp) _).setCell (by simp) _).setCell (by simp) _).setCell (by simp) _).setCell (by simp) _).setCell (by simp) _).setCell (by simp) _).setCell (by simp) _)
theorem toW_any (v:Value) (x:Wd) (w:World) (ht:x.ts.length≤1048576) (hh:x.hs.length≤1048576) (h:IsWd v x w) :
 Calls Tryz.prog 68 #[v] w fun e w'=>∃v',e=.returned v'∧MadeW w.heap.size x v' w'∧Below w.heap.size w w':=by
 obtain ⟨ta,tc,ha,hc,rfl,hT,hH⟩:=h
 exact toW_in x.a x.m x.mo x.ev x.su x.mx ta x.ts tc ha x.hs hc w ht hh hT hH
theorem eqW_in (a m:ByteArray) (mo ev su mx:Int) (ta:Option Addr) (tl tc:Nat) (ha:Option Addr) (hl hc:Nat) (ta':Option Addr) (tc':Nat) (ha':Option Addr) (hc':Nat) (w:World)
 (h1:∀W,Below w.heap.size w W→Calls Tryz.prog 142 #[.slice ta tl tc,.slice ta' tl tc'] W fun e w'=>e=.returned (.bool true)∧Below W.heap.size W w')
 (h2:∀W,Below w.heap.size w W→Calls Tryz.prog 143 #[.slice ha hl hc,.slice ha' hl hc'] W fun e w'=>e=.returned (.bool true)∧Below W.heap.size W w') :
 Calls Tryz.prog 86 #[.agg #[.string a,.string m,.int .i64 mo,.int .i64 ev,.int .i64 su,.int .i64 mx,.slice ta tl tc,.slice ha hl hc],.agg #[.string a,.string m,.int .i64 mo,.int .i64 ev,.int .i64 su,.int .i64 mx,.slice ta' tl tc',.slice ha' hl hc']] w fun e w'=>e=.returned (.bool true)∧Below w.heap.size w w':=by
 have H1:=H_ h1
 have H2:=H_ h2
 have HB0:Hid (Below w.heap.size w ((w.alloc (.cells #[.string a,.string m,.int .i64 mo,.int .i64 ev,.int .i64 su,.int .i64 mx,.slice ta tl tc,.slice ha hl hc] 106)).alloc (.cells #[.string a,.string m,.int .i64 mo,.int .i64 ev,.int .i64 su,.int .i64 mx,.slice ta' tl tc',.slice ha' hl hc'] 106))):=H_ ((al_ _ _).alloc (by simp) _)
 have HX0:=H_ ((Blk.new w [.string a,.string m,.int .i64 mo,.int .i64 ev,.int .i64 su,.int .i64 mx,.slice ta tl tc,.slice ha hl hc] 106).below ((Below.refl _ _).alloc (Nat.le_refl _) (Obj.cells #[.string a,.string m,.int .i64 mo,.int .i64 ev,.int .i64 su,.int .i64 mx,.slice ta' tl tc',.slice ha' hl hc'] 106)))
 have HY0:=H_ (Blk.new (w.alloc (.cells #[.string a,.string m,.int .i64 mo,.int .i64 ev,.int .i64 su,.int .i64 mx,.slice ta tl tc,.slice ha hl hc] 106)) [.string a,.string m,.int .i64 mo,.int .i64 ev,.int .i64 su,.int .i64 mx,.slice ta' tl tc',.slice ha' hl hc'] 106)
 have e1:(w.alloc (.cells #[.string a,.string m,.int .i64 mo,.int .i64 ev,.int .i64 su,.int .i64 mx,.slice ta tl tc,.slice ha hl hc] 106)).heap.size=w.heap.size+1:=by simp
 rw [e1] at HY0
 clear e1 h1 h2
 go_enter Tryz.func86,Tryz.ntmps86
 go_wp2_with fail
 refine (H1.out _ HB0.out).mono ?_
 rintro e w1 ⟨rfl,hb1⟩
 have HB1:=HT_ HB0 hb1
 have HX1:=H_ (HX0.out.below hb1)
 have HY1:=H_ (HY0.out.below hb1)
 obtain ⟨xl,xc⟩:=HX1.out
 have x7:=q_ xc 7
 obtain ⟨yl,yc⟩:=HY1.out
 have y7:=q_ yc 7
 clear xc yc hb1
 go_wp2_with fail
 refine (H2.out _ HB1.out).mono ?_
 rintro e w2 ⟨rfl,hb2⟩
 have HB2:=HT_ HB1 hb2
 clear hb2
 go_wp2_with fail
 go_ret
 exact ⟨rfl,HB2.out⟩
theorem eqW_any (v v':Value) (x:Wd) (w:World) (ht:x.ts.length≤1048576) (hh:x.hs.length≤1048576) (h:IsWd v x w) (h':IsWd v' x w) :
 Calls Tryz.prog 86 #[v,v'] w fun e w'=>e=.returned (.bool true)∧Below w.heap.size w w':=by
 obtain ⟨ta,tc,ha,hc,rfl,hT,hH⟩:=h
 obtain ⟨ta',tc',ha',hc',rfl,hT',hH'⟩:=h'
 exact eqW_in x.a x.m x.mo x.ev x.su x.mx ta x.ts.length tc ha x.hs.length hc ta' tc' ha' hc' w (fun W hW=>eqTs_any ta ta' tc tc' x.ts W ht (hT.below hW) (hT'.below hW)) (fun W hW=>eqHs_any ha ha' hc hc' x.hs W hh (hH.below hW) (hH'.below hW))
end WinR
end Go.Proofs.YtnceeaccbcfopaaGreatDoor
namespace Go.Proofs.YtnceeaccbcfopaaGreatDoor
open Go.ChangeShapes Go.WideShapes Go.ChangeAt Go.RowKit Go.Deep
set_option linter.unusedVariables false
namespace CatR
section
variable {H:Type} {enc:TypeId × Value→H} {P:Program} {w:World} {base:Nat} {spare:Nat→Bool} {held:Bool}
theorem lst2 {α:Type} {cs:List α} (h:cs.length=2):∃c0 c1,cs=[c0,c1]:=by
 match cs,h with
 | [c0,c1],_=>exact ⟨c0,c1,rfl⟩
theorem lst6 {α:Type} {cs:List α} (h:cs.length=6):∃c0 c1 c2 c3 c4 c5,cs=[c0,c1,c2,c3,c4,c5]:=by
 match cs,h with
 | [c0,c1,c2,c3,c4,c5],_=>exact ⟨c0,c1,c2,c3,c4,c5,rfl⟩
theorem cellsAt {a:Addr} {cs:List Value} {n:Nat} (h:w.cells? base a n=some cs) (j:Nat) (hj:j<n):w.cell? (a.add j)=cs[j]?:=by
 obtain ⟨_,h1,h2⟩:=World.cells?_some h
 exact h2 j hj
theorem row_open {α:Type} (sz:Nat) (cel:α→List Value→Prop) (d:α) {t e:TypeId} {fuel:Nat} {ao:Option Addr} {len cap:Nat} {x:DataW H × List MemPlace} (ht:P.underlying t=some (.slice e)) (hC:P.cellsOf e=sz) (hsz:0<sz)
 (key:∀fuel cs x,DataW.trod enc P w base spare held fuel e cs=some x→∃a,cel a cs∧cs.length=sz)
 (h:DataW.trod enc P w base spare held fuel t [.slice ao len cap]=some x) :
 len≤maxLen∧∃f:Nat→α,(∀j,j<len→∃cs,cel (f j) cs)∧(len=0∨∃b off,ao=some ⟨b,off,none⟩∧b<w.heap.size∧∀j,j<len→∃cs,cel (f j) cs∧∀i,i<sz→w.cell? ⟨b,off+j*sz+i,none⟩=cs[i]?):=by
 rcases DataW.trod_slice ht h with ⟨hcs,_⟩|⟨a,len',cap',elems,rest,n,_,hcs,_,hb,hl,hm,hlen,hel,_,_⟩
 ·simp only [List.cons.injEq,Value.slice.injEq,and_true] at hcs
  obtain ⟨rfl,rfl,rfl⟩:=hcs
  exact ⟨Nat.zero_le _,fun _=>d,fun j hj=>absurd hj (by omega),.inl rfl⟩
 ·simp only [List.cons.injEq,Value.slice.injEq,and_true] at hcs
  obtain ⟨rfl,rfl,rfl⟩:=hcs
  have key2:∀i,i<len→∃E1:α,∃cs,cel E1 cs∧cs.length=sz∧w.cells? base (a.add (i*sz)) sz=some cs:=by
   intro i hi
   have h1:=hel i hi
   rw [hC,List.getElem?_eq_getElem (by omega)] at h1
   cases hc:w.cells? base (a.add (i*sz)) sz with
   | none=>rw [hc] at h1;simp at h1
   | some cs =>
    rw [hc] at h1
    simp only [Option.bind_some] at h1
    obtain ⟨E1,q1,q2⟩:=key _ _ _ h1
    exact ⟨E1,cs,q1,q2,rfl⟩
  have:∃f:Nat→α,∀i,i<len→∃cs,cel (f i) cs∧cs.length=sz∧w.cells? base (a.add (i*sz)) sz=some cs:=by
   refine ⟨fun i=>if hi:i<len then Classical.choose (key2 i hi) else d,fun i hi=>?_⟩
   simp only [hi,dif_pos]
   exact Classical.choose_spec (key2 i hi)
  obtain ⟨f,hf⟩:=this
  refine ⟨by omega,f,fun j hj=>by obtain ⟨cs,h1,_⟩:=hf j hj;exact ⟨cs,h1⟩,?_⟩
  by_cases h0:len=0
  ·exact .inl h0
  ·obtain ⟨b,off,spot⟩:=a
   obtain ⟨cs0,g0,g1,g2⟩:=hf 0 (by omega)
   have hc0:=cellsAt g2 0 hsz
   rw [List.getElem?_eq_getElem (by omega)] at hc0
   have hc1:w.cell? ⟨b,off,spot⟩=some cs0[0]:=by simpa [Addr.add] using hc0
   obtain rfl:spot=none:=World.cell?_spot hc1
   refine .inr ⟨b,off,rfl,World.block_lt_of_cell? w _ hc1,fun j hj=>?_⟩
   obtain ⟨cs,q1,q2,q3⟩:=hf j hj
   refine ⟨cs,q1,fun i hi=>?_⟩
   have g:=cellsAt q3 i hi
   have ad:((⟨b,off,none⟩:Addr).add (j*sz)).add i=⟨b,off+j*sz+i,none⟩:=by
    unfold Addr.add
    split<;>split<;>simp_all
   rw [ad] at g
   exact g
theorem lst_getD {α:Type} (f:Nat→α) (d:α) (len j:Nat) (hj:j<len):((List.range len).map f).getD j d=f j:=by simp [List.getD,hj]
theorem tis_open {t e:TypeId} {f0 f1:Field} {fuel:Nat} {ao:Option Addr} {len cap:Nat} {x:DataW H × List MemPlace} (ht:P.underlying t=some (.slice e)) (hs:P.underlying e=some (.struct #[f0,f1])) (hone:oneCellFields P #[f0,f1]=true) (hC:P.cellsOf e=2)
 (u0:P.underlying f0.type=some (.int .i64)) (u1:P.underlying f1.type=some (.int .i64))
 (h:DataW.trod enc P w base spare held fuel t [.slice ao len cap]=some x):len≤maxLen∧∃ts:List Ti,ts.length=len∧Tis ao len ts w:=by
 obtain ⟨h1,f,_,h2⟩:=row_open 2 (fun (a:Ti) cs=>cs=[.int .i64 a.u,.int .i64 a.p]) Ti.zero ht hC (by omega) (fun fuel cs x h=>by
  obtain ⟨xs,n,_,_,hl,hlen,hf⟩:=DataW.trod_struct hs h
  obtain ⟨c0,c1,rfl⟩:=lst2 (hl.trans hC)
  obtain ⟨y0,y1,rfl⟩:=lst2 (show xs.length=2 from hlen)
  obtain ⟨o0,k0⟩:=hone_of hone 0 f0 rfl
  obtain ⟨o1,k1⟩:=hone_of hone 1 f1 rfl
  have h0:=hf 0 f0 rfl
  have h1:=hf 1 f1 rfl
  simp [o0,k0] at h0
  simp [o1,k1] at h1
  obtain ⟨p,e0,_,_⟩:=DataW.trod_int u0 h0
  obtain ⟨q,e1,_,_⟩:=DataW.trod_int u1 h1
  simp only [List.cons.injEq,and_true] at e0 e1
  subst e0 e1
  exact ⟨⟨p,q⟩,rfl,rfl⟩) h
 refine ⟨h1,(List.range len).map f,by simp,by simp,?_⟩
 rcases h2 with h2|⟨b,off,rfl,hb,hc⟩
 ·exact .inl h2
 ·refine .inr ⟨b,off,rfl,hb,fun j hj=>?_⟩
  obtain ⟨cs,rfl,g⟩:=hc j hj
  rw [lst_getD f _ len j hj]
  exact ⟨g 0 (by omega),g 1 (by omega)⟩
theorem crs_open {t e:TypeId} {f0 f1:Field} {fuel:Nat} {ao:Option Addr} {len cap:Nat} {x:DataW H × List MemPlace} (ht:P.underlying t=some (.slice e)) (hs:P.underlying e=some (.struct #[f0,f1])) (hone:oneCellFields P #[f0,f1]=true) (hC:P.cellsOf e=2)
 (u0:P.underlying f0.type=some .string) (u1:P.underlying f1.type=some (.int .i64))
 (h:DataW.trod enc P w base spare held fuel t [.slice ao len cap]=some x):len≤maxLen∧∃cs:List Cr,cs.length=len∧(∀i,i<len→(cs.getD i Cr.zero).a.size≤maxLen)∧Crs ao len cs w:=by
 obtain ⟨h1,f,hq,h2⟩:=row_open 2 (fun (a:Cr) cs=>cs=[.string a.a,.int .i64 a.m]∧a.a.size≤maxLen) Cr.zero ht hC (by omega) (fun fuel cs x h=>by
  obtain ⟨xs,n,_,_,hl,hlen,hf⟩:=DataW.trod_struct hs h
  obtain ⟨c0,c1,rfl⟩:=lst2 (hl.trans hC)
  obtain ⟨y0,y1,rfl⟩:=lst2 (show xs.length=2 from hlen)
  obtain ⟨o0,k0⟩:=hone_of hone 0 f0 rfl
  obtain ⟨o1,k1⟩:=hone_of hone 1 f1 rfl
  have h0:=hf 0 f0 rfl
  have h1:=hf 1 f1 rfl
  simp [o0,k0] at h0
  simp [o1,k1] at h1
  obtain ⟨p,e0,_,s0⟩:=DataW.trod_string u0 h0
  obtain ⟨q,e1,_,_⟩:=DataW.trod_int u1 h1
  simp only [List.cons.injEq,and_true] at e0 e1
  subst e0 e1
  exact ⟨⟨p,q⟩,⟨rfl,s0⟩,rfl⟩) h
 refine ⟨h1,(List.range len).map f,by simp,fun i hi=>?_,by simp,?_⟩
 ·rw [lst_getD f _ len i hi]
  obtain ⟨cs,_,h⟩:=hq i hi
  exact h
 rcases h2 with h2|⟨b,off,rfl,hb,hc⟩
 ·exact .inl h2
 ·refine .inr ⟨b,off,rfl,hb,fun j hj=>?_⟩
  obtain ⟨cs,⟨rfl,_⟩,g⟩:=hc j hj
  rw [lst_getD f _ len j hj]
  exact ⟨g 0 (by omega),g 1 (by omega)⟩
theorem me_open {t tt te:TypeId} {f0 f1 f2 f3 f4 f5 g0 g1:Field} {fuel:Nat} {cs:List Value} {x:DataW H × List MemPlace} (hs:P.underlying t=some (.struct #[f0,f1,f2,f3,f4,f5])) (hone:oneCellFields P #[f0,f1,f2,f3,f4,f5]=true) (hC:P.cellsOf t=6)
 (u0:P.underlying f0.type=some .string) (u1:P.underlying f1.type=some (.int .i64)) (u2:P.underlying f2.type=some .bool) (u3:P.underlying f3.type=some (.int .i64)) (u4:P.underlying f4.type=some (.int .i64)) (u5:P.underlying f5.type=some (.slice te))
 (hs2:P.underlying te=some (.struct #[g0,g1])) (hone2:oneCellFields P #[g0,g1]=true) (hC2:P.cellsOf te=2) (v0:P.underlying g0.type=some (.int .i64)) (v1:P.underlying g1.type=some (.int .i64))
 (h:DataW.trod enc P w base spare held fuel t cs=some x) :
 ∃(m:Me) (ta:Option Addr) (tc:Nat),cs=[.string m.n,.int .i64 m.g,.bool m.wh,.int .i64 m.f,.int .i64 m.l,.slice ta m.ts.length tc]∧m.n.size≤maxLen∧m.ts.length≤maxLen∧Tis ta m.ts.length m.ts w:=by
 obtain ⟨xs,n,_,_,hl,hlen,hf⟩:=DataW.trod_struct hs h
 obtain ⟨c0,c1,c2,c3,c4,c5,rfl⟩:=lst6 (hl.trans hC)
 obtain ⟨y0,y1,y2,y3,y4,y5,rfl⟩:=lst6 (show xs.length=6 from hlen)
 obtain ⟨o0,k0⟩:=hone_of hone 0 f0 rfl
 obtain ⟨o1,k1⟩:=hone_of hone 1 f1 rfl
 obtain ⟨o2,k2⟩:=hone_of hone 2 f2 rfl
 obtain ⟨o3,k3⟩:=hone_of hone 3 f3 rfl
 obtain ⟨o4,k4⟩:=hone_of hone 4 f4 rfl
 obtain ⟨o5,k5⟩:=hone_of hone 5 f5 rfl
 have h0:=hf 0 f0 rfl
 have h1:=hf 1 f1 rfl
 have h2:=hf 2 f2 rfl
 have h3:=hf 3 f3 rfl
 have h4:=hf 4 f4 rfl
 have h5:=hf 5 f5 rfl
 simp [o0,k0] at h0
 simp [o1,k1] at h1
 simp [o2,k2] at h2
 simp [o3,k3] at h3
 simp [o4,k4] at h4
 simp [o5,k5] at h5
 obtain ⟨i,e0,_,s0⟩:=DataW.trod_string u0 h0
 obtain ⟨a,e1,_,s1⟩:=DataW.trod_int u1 h1
 obtain ⟨q,e2,_⟩:=DataW.trod_bool u2 h2
 obtain ⟨p,e3,_,s3⟩:=DataW.trod_int u3 h3
 obtain ⟨r,e4,_,s4⟩:=DataW.trod_int u4 h4
 obtain ⟨ta,tl,tc,rfl⟩:∃ta tl tc,c5=.slice ta tl tc:=by
  rcases DataW.trod_slice u5 h5 with ⟨hcs,_⟩|⟨a,len',cap',_,_,_,_,hcs,_⟩
  ·simp only [List.cons.injEq,and_true] at hcs
   exact ⟨_,_,_,hcs⟩
  ·simp only [List.cons.injEq,and_true] at hcs
   exact ⟨_,_,_,hcs⟩
 obtain ⟨q1,ts,rfl,q2⟩:=tis_open u5 hs2 hone2 hC2 v0 v1 h5
 simp only [List.cons.injEq,and_true] at e0 e1 e2 e3 e4
 subst e0 e1 e2 e3 e4
 exact ⟨⟨i,a,q,p,r,ts⟩,ta,tc,rfl,s0,q1,q2⟩
theorem mes_open {ts t tt te:TypeId} {f0 f1 f2 f3 f4 f5 g0 g1:Field} {fuel:Nat} {ao:Option Addr} {len cap:Nat} {x:DataW H × List MemPlace} (ht:P.underlying ts=some (.slice t)) (hs:P.underlying t=some (.struct #[f0,f1,f2,f3,f4,f5])) (hone:oneCellFields P #[f0,f1,f2,f3,f4,f5]=true) (hC:P.cellsOf t=6)
 (u0:P.underlying f0.type=some .string) (u1:P.underlying f1.type=some (.int .i64)) (u2:P.underlying f2.type=some .bool) (u3:P.underlying f3.type=some (.int .i64)) (u4:P.underlying f4.type=some (.int .i64)) (u5:P.underlying f5.type=some (.slice te))
 (hs2:P.underlying te=some (.struct #[g0,g1])) (hone2:oneCellFields P #[g0,g1]=true) (hC2:P.cellsOf te=2) (v0:P.underlying g0.type=some (.int .i64)) (v1:P.underlying g1.type=some (.int .i64))
 (h:DataW.trod enc P w base spare held fuel ts [.slice ao len cap]=some x) :
 len≤maxLen∧∃ms:List Me,ms.length=len∧(∀i,i<len→(ms.getD i Me.zero).n.size≤maxLen∧(ms.getD i Me.zero).ts.length≤maxLen)∧Mes ao len ms w:=by
 obtain ⟨h1,f,hq,h2⟩:=row_open 6 (fun (m:Me) cs=>∃(ta:Option Addr) (tc:Nat),cs=[.string m.n,.int .i64 m.g,.bool m.wh,.int .i64 m.f,.int .i64 m.l,.slice ta m.ts.length tc]∧m.n.size≤maxLen∧m.ts.length≤maxLen∧Tis ta m.ts.length m.ts w) Me.zero ht hC (by omega) (fun fuel cs x h=>by
  obtain ⟨m,ta,tc,rfl,q⟩:=me_open (tt:=tt) hs hone hC u0 u1 u2 u3 u4 u5 hs2 hone2 hC2 v0 v1 h
  exact ⟨m,⟨ta,tc,rfl,q⟩,rfl⟩) h
 refine ⟨h1,(List.range len).map f,by simp,fun i hi=>?_,by simp,?_⟩
 ·rw [lst_getD f _ len i hi]
  obtain ⟨cs,_,_,_,q1,q2,_⟩:=hq i hi
  exact ⟨q1,q2⟩
 rcases h2 with h2|⟨b,off,rfl,hb,hc⟩
 ·exact .inl h2
 ·refine .inr ⟨b,off,rfl,hb,fun j hj=>?_⟩
  obtain ⟨cs,⟨ta,tc,rfl,_,_,q3⟩,g⟩:=hc j hj
  rw [lst_getD f _ len j hj]
  exact ⟨ta,tc,g 0 (by omega),g 1 (by omega),g 2 (by omega),g 3 (by omega),g 4 (by omega),g 5 (by omega),q3⟩
theorem slice_of {t e:TypeId} {fuel:Nat} {c:Value} {x:DataW H × List MemPlace} (u5:P.underlying t=some (.slice e)) (h5:DataW.trod enc P w base spare held fuel t [c]=some x):∃ta tl tc,c=.slice ta tl tc:=by
 rcases DataW.trod_slice u5 h5 with ⟨hcs,_⟩|⟨a,len',cap',_,_,_,_,hcs,_⟩
 ·simp only [List.cons.injEq,and_true] at hcs
  exact ⟨_,_,_,hcs⟩
 ·simp only [List.cons.injEq,and_true] at hcs
  exact ⟨_,_,_,hcs⟩
theorem ca_cells {t a b:TypeId} {f0 f1:Field} {fuel:Nat} {cs:List Value} {x:DataW H × List MemPlace} (hs:P.underlying t=some (.struct #[f0,f1])) (hone:oneCellFields P #[f0,f1]=true) (hC:P.cellsOf t=2)
 (u0:P.underlying f0.type=some (.slice a)) (u1:P.underlying f1.type=some (.slice b))
 (h:DataW.trod enc P w base spare held fuel t cs=some x) :
 ∃ma ml mc ca cl cc,cs=[.slice ma ml mc,.slice ca cl cc]∧(∃n y,DataW.trod enc P w base spare held n f0.type [.slice ma ml mc]=some y)∧∃n y,DataW.trod enc P w base spare held n f1.type [.slice ca cl cc]=some y:=by
 obtain ⟨xs,n,_,_,hl,hlen,hf⟩:=DataW.trod_struct hs h
 obtain ⟨c0,c1,rfl⟩:=lst2 (hl.trans hC)
 obtain ⟨y0,y1,rfl⟩:=lst2 (show xs.length=2 from hlen)
 obtain ⟨o0,k0⟩:=hone_of hone 0 f0 rfl
 obtain ⟨o1,k1⟩:=hone_of hone 1 f1 rfl
 have h0:=hf 0 f0 rfl
 have h1:=hf 1 f1 rfl
 simp [o0,k0] at h0
 simp [o1,k1] at h1
 obtain ⟨ma,ml,mc,rfl⟩:=slice_of u0 h0
 obtain ⟨ca,cl,cc,rfl⟩:=slice_of u1 h1
 exact ⟨ma,ml,mc,ca,cl,cc,rfl,⟨n,_,h0⟩,⟨n,_,h1⟩⟩
end
end CatR
namespace WinR
open RowG
open CatR (row_open lst2 lst_getD slice_of)
section
variable {J:Type} {enc:TypeId × Value→J} {P:Program} {w:World} {base:Nat} {spare:Nat→Bool} {held:Bool}
theorem lst8 {α:Type} {cs:List α} (h:cs.length=8):∃c0 c1 c2 c3 c4 c5 c6 c7,cs=[c0,c1,c2,c3,c4,c5,c6,c7]:=by
 match cs,h with
 | [c0,c1,c2,c3,c4,c5,c6,c7],_=>exact ⟨c0,c1,c2,c3,c4,c5,c6,c7,rfl⟩
theorem tags_open {t e:TypeId} {fuel:Nat} {ao:Option Addr} {len cap:Nat} {x:DataW J × List MemPlace} (ht:P.underlying t=some (.slice e)) (hs:P.underlying e=some .string) (hC:P.cellsOf e=1)
 (h:DataW.trod enc P w base spare held fuel t [.slice ao len cap]=some x):len≤maxLen∧∃ts:List ByteArray,ts.length=len∧(∀t∈ts,t.size≤maxLen)∧Tgs ao ts w:=by
 obtain ⟨h1,f,hq,h2⟩:=row_open 1 (fun (a:ByteArray) cs=>cs=[.string a]∧a.size≤maxLen) tz ht hC (by omega) (fun fuel cs x h=>by
  obtain ⟨i,e0,_,s0⟩:=DataW.trod_string hs h
  exact ⟨i,⟨e0,s0⟩,by rw [e0];rfl⟩) h
 refine ⟨h1,(List.range len).map f,by simp,fun t ht=>?_,?_⟩
 ·obtain ⟨i,hi,rfl⟩:=List.mem_map.1 ht
  obtain ⟨cs,_,q⟩:=hq i (List.mem_range.1 hi)
  exact q
 rcases h2 with h2|⟨b,off,rfl,hb,hc⟩
 ·exact .inl (by simpa using h2)
 ·refine .inr ⟨b,off,rfl,hb,fun j hj i hi=>?_⟩
  have hj':j<len:=by simpa using hj
  obtain ⟨cs,⟨rfl,_⟩,g⟩:=hc j hj'
  rw [lst_getD f _ len j hj']
  exact g i hi
theorem hrs_open {t e:TypeId} {f0 f1:Field} {fuel:Nat} {ao:Option Addr} {len cap:Nat} {x:DataW J × List MemPlace} (ht:P.underlying t=some (.slice e)) (hs:P.underlying e=some (.struct #[f0,f1])) (hone:oneCellFields P #[f0,f1]=true) (hC:P.cellsOf e=2)
 (u0:P.underlying f0.type=some (.int .i64)) (u1:P.underlying f1.type=some (.int .i64))
 (h:DataW.trod enc P w base spare held fuel t [.slice ao len cap]=some x):len≤maxLen∧∃hs:List H,hs.length=len∧Hrs ao hs w:=by
 obtain ⟨h1,f,_,h2⟩:=row_open 2 (fun (a:H) cs=>cs=[.int .i64 a.h,.int .i64 a.s]) H.zero ht hC (by omega) (fun fuel cs x h=>by
  obtain ⟨xs,n,_,_,hl,hlen,hf⟩:=DataW.trod_struct hs h
  obtain ⟨c0,c1,rfl⟩:=lst2 (hl.trans hC)
  obtain ⟨y0,y1,rfl⟩:=lst2 (show xs.length=2 from hlen)
  obtain ⟨o0,k0⟩:=hone_of hone 0 f0 rfl
  obtain ⟨o1,k1⟩:=hone_of hone 1 f1 rfl
  have h0:=hf 0 f0 rfl
  have h1:=hf 1 f1 rfl
  simp [o0,k0] at h0
  simp [o1,k1] at h1
  obtain ⟨p,e0,_,_⟩:=DataW.trod_int u0 h0
  obtain ⟨q,e1,_,_⟩:=DataW.trod_int u1 h1
  simp only [List.cons.injEq,and_true] at e0 e1
  subst e0 e1
  exact ⟨⟨p,q⟩,rfl,rfl⟩) h
 refine ⟨h1,(List.range len).map f,by simp,?_⟩
 rcases h2 with h2|⟨b,off,rfl,hb,hc⟩
 ·exact .inl (by simpa using h2)
 ·refine .inr ⟨b,off,rfl,hb,fun j hj i hi=>?_⟩
  have hj':j<len:=by simpa using hj
  obtain ⟨cs,rfl,g⟩:=hc j hj'
  rw [lst_getD f _ len j hj']
  exact g i hi
theorem win_open {t te th:TypeId} {f0 f1 f2 f3 f4 f5 f6 f7 g0 g1:Field} {fuel:Nat} {cs:List Value} {x:DataW J × List MemPlace} (hs:P.underlying t=some (.struct #[f0,f1,f2,f3,f4,f5,f6,f7])) (hone:oneCellFields P #[f0,f1,f2,f3,f4,f5,f6,f7]=true) (hC:P.cellsOf t=8)
 (u0:P.underlying f0.type=some .string) (u1:P.underlying f1.type=some .string) (u2:P.underlying f2.type=some (.int .i64)) (u3:P.underlying f3.type=some (.int .i64)) (u4:P.underlying f4.type=some (.int .i64)) (u5:P.underlying f5.type=some (.int .i64)) (u6:P.underlying f6.type=some (.slice te)) (u7:P.underlying f7.type=some (.slice th))
 (ut:P.underlying te=some .string) (hCt:P.cellsOf te=1) (hs2:P.underlying th=some (.struct #[g0,g1])) (hone2:oneCellFields P #[g0,g1]=true) (hC2:P.cellsOf th=2) (v0:P.underlying g0.type=some (.int .i64)) (v1:P.underlying g1.type=some (.int .i64))
 (h:DataW.trod enc P w base spare held fuel t cs=some x) :
 ∃(x:Wd) (ta:Option Addr) (tc:Nat) (ha:Option Addr) (hc:Nat),cs=(wcells x ta tc ha hc).toList∧x.In∧Tgs ta x.ts w∧Hrs ha x.hs w:=by
 obtain ⟨xs,n,_,_,hl,hlen,hf⟩:=DataW.trod_struct hs h
 obtain ⟨c0,c1,c2,c3,c4,c5,c6,c7,rfl⟩:=lst8 (hl.trans hC)
 obtain ⟨y0,y1,y2,y3,y4,y5,y6,y7,rfl⟩:=lst8 (show xs.length=8 from hlen)
 obtain ⟨o0,k0⟩:=hone_of hone 0 f0 rfl
 obtain ⟨o1,k1⟩:=hone_of hone 1 f1 rfl
 obtain ⟨o2,k2⟩:=hone_of hone 2 f2 rfl
 obtain ⟨o3,k3⟩:=hone_of hone 3 f3 rfl
 obtain ⟨o4,k4⟩:=hone_of hone 4 f4 rfl
 obtain ⟨o5,k5⟩:=hone_of hone 5 f5 rfl
 obtain ⟨o6,k6⟩:=hone_of hone 6 f6 rfl
 obtain ⟨o7,k7⟩:=hone_of hone 7 f7 rfl
 have h0:=hf 0 f0 rfl
 have h1:=hf 1 f1 rfl
 have h2:=hf 2 f2 rfl
 have h3:=hf 3 f3 rfl
 have h4:=hf 4 f4 rfl
 have h5:=hf 5 f5 rfl
 have h6:=hf 6 f6 rfl
 have h7:=hf 7 f7 rfl
 simp [o0,k0] at h0
 simp [o1,k1] at h1
 simp [o2,k2] at h2
 simp [o3,k3] at h3
 simp [o4,k4] at h4
 simp [o5,k5] at h5
 simp [o6,k6] at h6
 simp [o7,k7] at h7
 obtain ⟨a,e0,_,s0⟩:=DataW.trod_string u0 h0
 obtain ⟨m,e1,_,s1⟩:=DataW.trod_string u1 h1
 obtain ⟨p,e2,_,_⟩:=DataW.trod_int u2 h2
 obtain ⟨q,e3,_,_⟩:=DataW.trod_int u3 h3
 obtain ⟨r,e4,_,_⟩:=DataW.trod_int u4 h4
 obtain ⟨s,e5,_,_⟩:=DataW.trod_int u5 h5
 obtain ⟨ta,tl,tc,rfl⟩:=slice_of u6 h6
 obtain ⟨ha,hl',hc,rfl⟩:=slice_of u7 h7
 obtain ⟨q1,ts,rfl,q2,q3⟩:=tags_open u6 ut hCt h6
 obtain ⟨r1,hs',rfl,r3⟩:=hrs_open u7 hs2 hone2 hC2 v0 v1 h7
 simp only [List.cons.injEq,and_true] at e0 e1 e2 e3 e4 e5
 subst e0 e1 e2 e3 e4 e5
 exact ⟨⟨a,m,p,q,r,s,ts,hs'⟩,ta,tc,ha,hc,rfl,⟨s0,s1,q1,q2,r1⟩,q3,r3⟩
end
end WinR
end Go.Proofs.YtnceeaccbcfopaaGreatDoor
namespace Go.Proofs.YtnceeaccbcfopaaGreatDoor
open Go.RowKit
set_option linter.unusedVariables false
namespace CatR
def tU (ts:List Ti) (i:Nat):Int:=(ts.getD i Ti.zero).u
def tP (ts:List Ti) (i:Nat):Int:=(ts.getD i Ti.zero).p
def tA (ts:List Ti):Nat→Int
 | 0=>0
 | k+1=>tU ts k
def TOk (ts:List Ti) (k:Nat):Prop:=∀i,i<k→tA ts i<tU ts i∧0≤tP ts i∧tP ts i≤1000000
def TRight (ts:List Ti):Prop:=1≤ts.length∧ts.length≤5∧TOk ts ts.length∧tA ts ts.length=1000000000000
theorem TOk.zero (ts:List Ti):TOk ts 0:=fun i h=>absurd h (by omega)
theorem TOk.more {ts:List Ti} {k:Nat} (h:TOk ts k) (h1:tA ts k<tU ts k) (h2:0≤tP ts k) (h3:tP ts k≤1000000):TOk ts (k+1):=by
 intro i hi
 by_cases e:i=k
 ·subst e;exact ⟨h1,h2,h3⟩
 ·exact h i (by omega)
theorem TOk.rise {ts:List Ti} {n:Nat} (h:TOk ts n):∀i,i≤n→0≤tA ts i∧∀j,j≤i→tA ts j≤tA ts i
 | 0,_=>⟨by simp [tA],fun j hj=>by
  obtain rfl:j=0:=by omega
  exact Int.le_refl _⟩
 | i+1,hi=>by
  obtain ⟨a,b⟩:=TOk.rise h i (by omega)
  have c:=(h i (by omega)).1
  have d:tA ts (i+1)=tU ts i:=rfl
  refine ⟨by omega,fun j hj=>?_⟩
  by_cases e:j=i+1
  ·subst e;exact Int.le_refl _
  ·have:=b j (by omega)
   omega
theorem TRight.upto {ts:List Ti} (h:TRight ts) (k:Nat) (hk:k<ts.length):1≤tU ts k∧tU ts k≤1000000000000:=by
 obtain ⟨_,_,h3,h4⟩:=h
 have a:=(h3.rise ts.length (Nat.le_refl _)).2 (k+1) (by omega)
 have b:=(h3.rise k (by omega)).1
 have c:=(h3 k hk).1
 have d:tA ts (k+1)=tU ts k:=rfl
 omega
def MRight (m:Me):Prop:=NameR.nameB m.n=true∧(1≤m.g∧m.g≤4)∧(0≤m.f∧m.f≤1000000000)∧(0≤m.l∧m.l≤1000000000000)∧TRight m.ts
def TOkDec (ts:List Ti) (k:Nat):Decidable (TOk ts k):=inferInstanceAs (Decidable (∀i,i<k→tA ts i<tU ts i∧0≤tP ts i∧tP ts i≤1000000))
def TRightDec (ts:List Ti):Decidable (TRight ts) :=
 haveI:=TOkDec ts ts.length
 inferInstanceAs (Decidable (1≤ts.length∧ts.length≤5∧TOk ts ts.length∧tA ts ts.length=1000000000000))
def MRightDec (m:Me):Decidable (MRight m) :=
 haveI:=TRightDec m.ts
 inferInstanceAs (Decidable (NameR.nameB m.n=true∧(1≤m.g∧m.g≤4)∧(0≤m.f∧m.f≤1000000000)∧(0≤m.l∧m.l≤1000000000000)∧TRight m.ts))
def tB (ts:List Ti):Bool:=@decide (TRight ts) (TRightDec ts)
def mB (m:Me):Bool:=@decide (MRight m) (MRightDec m)
theorem tB_no {ts:List Ti} (h:¬TRight ts):tB ts=false:=by unfold tB;exact @decide_eq_false _ (TRightDec ts) h
theorem tB_yes {ts:List Ti} (h:TRight ts):tB ts=true:=by unfold tB;exact @decide_eq_true _ (TRightDec ts) h
theorem tB_false {ts:List Ti} {k:Nat} (hk:k<ts.length) (h:¬(tA ts k<tU ts k∧0≤tP ts k∧tP ts k≤1000000)):tB ts=false:=tB_no (fun hr=>h (hr.2.2.1 k hk))
theorem tB_over {ts:List Ti} {k:Nat} (hk:k<ts.length) (h:¬(1≤tU ts k∧tU ts k≤1000000000000)):tB ts=false:=tB_no (fun hr=>h (hr.upto k hk))
theorem tB_end {ts:List Ti} (h1:1≤ts.length) (h5:ts.length≤5) (h:TOk ts ts.length):tB ts=decide (tA ts ts.length=1000000000000):=by
 by_cases e:tA ts ts.length=1000000000000
 ·rw [decide_eq_true e];exact tB_yes ⟨h1,h5,h,e⟩
 ·rw [decide_eq_false e];exact tB_no (fun hr=>e hr.2.2.2)
theorem mB_eq (m:Me):mB m=(NameR.nameB m.n&&decide (1≤m.g∧m.g≤4)&&decide (0≤m.f∧m.f≤1000000000)&&decide (0≤m.l∧m.l≤1000000000000)&&tB m.ts):=by
 unfold mB tB
 rw [Bool.eq_iff_iff]
 simp only [decide_eq_true_eq,Bool.and_eq_true]
 unfold MRight
 constructor
 ·rintro ⟨a,b,c,d,e⟩;exact ⟨⟨⟨⟨a,b⟩,c⟩,d⟩,e⟩
 ·rintro ⟨⟨⟨⟨a,b⟩,c⟩,d⟩,e⟩;exact ⟨a,b,c,d,e⟩
end CatR
end Go.Proofs.YtnceeaccbcfopaaGreatDoor
namespace Go.Proofs.YtnceeaccbcfopaaGreatDoor
open Go.ChangeShapes Go.WideShapes Go.ChangeAt Go.RowKit
set_option linter.unusedVariables false
namespace CatR
theorem H_ {p:Prop} (h:p):Hid p:=h
theorem within64 (n low high:Int) (w:World) :
 Calls Tryz.prog 30 #[.int .i64 n,.int .i64 low,.int .i64 high] w fun e w'=>e=.returned (.bool (decide (low≤n∧n≤high)))∧w'=w:=by
 rcases (show (¬low≤n)∨(low≤n∧¬n≤high)∨(low≤n∧n≤high) by omega) with h|⟨h1,h2⟩|⟨h1,h2⟩
 all_goals
  go_enter Tryz.func30,Tryz.ntmps30
  go_wp2
  go_ret
  exact ⟨ret_bool (by first|(simp [*];done)|(simp;omega)),rfl⟩
theorem withinI (n low high:Int) (w:World) :
 Calls Tryz.prog 167 #[.int .i64 n,.int .i64 low,.int .i64 high] w fun e w'=>e=.returned (.bool (decide (low≤n∧n≤high)))∧w'=w:=by
 rcases (show (¬low≤n)∨(low≤n∧¬n≤high)∨(low≤n∧n≤high) by omega) with h|⟨h1,h2⟩|⟨h1,h2⟩
 all_goals
  go_enter Tryz.func167,Tryz.ntmps167
  go_wp2
  go_ret
  exact ⟨ret_bool (by first|(simp [*];done)|(simp;omega)),rfl⟩
theorem isS (n low high:Int) (w:World) :
 Calls Tryz.prog 63 #[.int .i64 n,.int .i64 low,.int .i64 high] w fun e w'=>e=.returned (.bool (decide (low≤n∧n≤high)))∧w'=w:=by
 rcases (show (¬low≤n)∨(low≤n∧¬n≤high)∨(low≤n∧n≤high) by omega) with h|⟨h1,h2⟩|⟨h1,h2⟩
 all_goals
  go_enter Tryz.func63,Tryz.ntmps63
  go_wp2
  go_ret
  exact ⟨ret_bool (by first|(simp [*];done)|(simp;omega)),rfl⟩
theorem impl_tiers (ao:Option Addr) (len cap:Nat) (ts:List Ti) (w:World) (hlen:len≤1048576) (hI:Tis ao len ts w) :
 Calls Tryz.prog 198 #[.slice ao len cap] w fun e w'=>e=.returned (.bool (tB ts))∧Below w.heap.size w w':=by
 have hz:=hI.1
 have HWI:=H_ (fun w=>withinI len 1 5 w)
 by_cases h15:1≤len∧len≤5
 ·rw [decide_eq_true (by omega)] at HWI
  have HI:=H_ hI
  have HZ:=H_ hz
  have HT0:=H_ (fun k (hk:k<ts.length)=>tB_false (ts:=ts) hk)
  have HTE:=H_ (fun h=>tB_end (ts:=ts) (by omega) (by omega) h)
  generalize tB ts=R at *
  clear hI hz
  go_enter Tryz.func198,Tryz.ntmps198
  go_wp2_with (go_at_call 167;refine (HWI.out _).mono ?_;rintro e w0 ⟨rfl,rfl⟩)
  go_loopw [3,12] (fun x z wr=>∃k:Nat,k≤len∧x=.int .i64 (tA ts k)∧z=.int .i64 k∧Hid (TOk ts k)∧Hid (Below w0.heap.size w0 wr)) (fun x z _=>len-(intOf z).toNat)
  case atStart=>exact ⟨0,by omega,rfl,rfl,H_ (TOk.zero ts),H_ (Below.refl _ _)⟩
  case round =>
   obtain ⟨k,hk,rfl,rfl,HK,HB⟩:=hrel
   by_cases hlt:k<len
   ·have hlt2:(k:Int)<(len:Int):=by omega
    obtain ⟨b,off,rfl,hbl,d0,d1⟩:=tis_at (HI.out.below HB.out) k hlt
    have c0:wr.cell? ⟨b,off+k*2,none⟩=some (.int .i64 (tU ts k)):=d0
    have c1:wr.cell? ⟨b,off+k*2+1,none⟩=some (.int .i64 (tP ts k)):=d1
    clear d0 d1
    have HT:=H_ (HT0.out k (by have:=HZ.out;omega))
    have HM:=H_ (fun h1 h2 h3=>HK.out.more (k:=k) h1 h2 h3)
    have HU:Hid (tA ts (k+1)=tU ts k):=rfl
    have HW2:=H_ (fun w=>within64 (tP ts k) 0 1000000 w)
    generalize tA ts k=A at *
    generalize tU ts k=U at *
    generalize tP ts k=P at *
    have HAl:=H_ (fun o=>HB.out.alloc HB.out.size o)
    rcases (show (U≤A)∨(¬U≤A∧¬(0≤P∧P≤1000000))∨(¬U≤A∧(0≤P∧P≤1000000)) by omega) with q|⟨q,q2⟩|⟨q,q2⟩
    ·have HR:Hid (R=false):=H_ (HT.out (by omega))
     go_wp2_with fail
     go_ret
     exact ⟨ret_bool HR.out.symm,HAl.out _⟩
    ·have HR:Hid (R=false):=H_ (HT.out (fun h=>q2 h.2))
     rw [decide_eq_false q2] at HW2
     go_wp2_with (go_at_call 30;refine (HW2.out _).mono ?_;rintro e w' ⟨rfl,rfl⟩)
     go_ret
     exact ⟨ret_bool HR.out.symm,HAl.out _⟩
    ·have HM2:=H_ (HM.out (by omega) q2.1 q2.2)
     rw [decide_eq_true q2] at HW2
     go_wp2_with (go_at_call 30;refine (HW2.out _).mono ?_;rintro e w' ⟨rfl,rfl⟩)
     go_roundw
     case rel=>exact ⟨k+1,by omega,by rw [HU.out],by go_num,HM2,H_ (HAl.out _)⟩
     case measure=>simp [intOf];omega
   ·obtain rfl:k=len:=by omega
    have HR:Hid (R=decide (tA ts k=1000000000000)):=H_ (by have h:=HTE.out;rw [HZ.out] at h;exact h HK.out)
    generalize tA ts k=A at *
    by_cases q:A=1000000000000
    ·rw [decide_eq_true q] at HR
     go_wp2_with fail
     go_ret
     exact ⟨ret_bool (by rw [HR.out];try simp [q]),HB.out⟩
    ·rw [decide_eq_false q] at HR
     go_wp2_with fail
     go_ret
     exact ⟨ret_bool (by rw [HR.out];try simp [q]),HB.out⟩
 ·rw [decide_eq_false (by omega)] at HWI
  have HR:Hid (tB ts=false):=H_ (tB_no (fun h=>by have:=h.1;have:=h.2.1;omega))
  clear hI hz
  go_enter Tryz.func198,Tryz.ntmps198
  go_wp2_with (go_at_call 167;refine (HWI.out _).mono ?_;rintro e w0 ⟨rfl,rfl⟩)
  go_ret
  exact ⟨ret_bool HR.out.symm,Below.refl _ _⟩
end CatR
end Go.Proofs.YtnceeaccbcfopaaGreatDoor
