/-
  Two windows joined, the program's way, by one function of two windows. The conditions: the lists are short enough, and the lists that are given are laid as slices are.
  The model's WindowJoin: two windows that are right are joined, others are refused. The conditions: what the callees ask for.
  What a window comes to as a number, on both sides. The conditions: texts of at most 1048576 bytes, lists of at most 1048576; the program's table stands in its variable.
  Joining, in numbers: two windows are the same joined either way, three however; what both together used is no less than what each did, and no more than the sum. No condition.
-/
import Derived.Test.YteejpnkmnmoebaaDoorJ20
namespace Go.Proofs.YteejpnkmnmoebaaDoor
open Go.ChangeShapes Go.WideShapes Go.ChangeAt Go.RowKit
set_option linter.unusedVariables false
namespace WinR
open RowG (MadeG Rws)
open LtR (lt)
open DateR (Laid)
open CatR (Blk Blk.new)
theorem impl_join (x y:Wd) (ta1:Option Addr) (tc1:Nat) (ha1:Option Addr) (hc1:Nat) (ta2:Option Addr) (tc2:Nat) (ha2:Option Addr) (hc2:Nat) (w:World) (h2:Two x y) (hL:Laid w)
 (sT1:SlOk ta1 x.ts.length tc1) (sH1:SlOk ha1 x.hs.length hc1) (sT2:SlOk ta2 y.ts.length tc2) (sH2:SlOk ha2 y.hs.length hc2) (hT1:Tgs ta1 x.ts w) (hH1:Hrs ha1 x.hs w) (hT2:Tgs ta2 y.ts w) (hH2:Hrs ha2 y.hs w) :
 Calls Tryd.prog 5 #[.agg (wcells x ta1 tc1 ha1 hc1),.agg (wcells y ta2 tc2 ha2 hc2)] w fun e w'=>JPost (wB x) (wB y) (wB (jw x y)) (sameW x y) (jw x y) w.heap.size e w'∧Below w.heap.size w w':=by
 refine join_in x.a x.m x.mo x.ev x.su x.mx ta1 x.ts.length tc1 ha1 x.hs.length hc1 y.a y.m y.mo y.ev y.su y.mx ta2 y.ts.length tc2 ha2 y.hs.length hc2 (jw x y).ts (jw x y).hs (x.ev+y.ev) (x.su+y.su) (max x.mx y.mx) (wB x) (wB y) (wB (jw x y)) (jw x y) w hL
  (fun W hW=>impl_right x.a x.m x.mo x.ev x.su x.mx x.ts x.hs ta1 tc1 ha1 hc1 W h2.sx.1 h2.sx.2.1 h2.sx.2.2.1 h2.sx.2.2.2.1 h2.sx.2.2.2.2 (hL.below hW) (hT1.below hW) (hH1.below hW))
  (fun W hW=>impl_right y.a y.m y.mo y.ev y.su y.mx y.ts y.hs ta2 tc2 ha2 hc2 W h2.sy.1 h2.sy.2.1 h2.sy.2.2.1 h2.sy.2.2.2.1 h2.sy.2.2.2.2 (hL.below hW) (hT2.below hW) (hH2.below hW)) ?_
  (fun ao cc ho hcc W hW hT hH=>impl_right x.a x.m x.mo _ _ _ (jw x y).ts (jw x y).hs ao cc ho hcc W h2.sx.1 h2.sx.2.1 h2.jlt h2.jts h2.jlh hW hT hH)
  (fun h ao cc ho hcc W hT hH=>impl_win_s (jw x y) ao cc ho hcc W h2.sx.1 h2.sx.2.1 h2.jlt h2.jts h2.jlh (fit h).l1 hT hH)
 intro hx hy W hW
 have fx:=fit hx
 have fy:=fit hy
 exact with_in x.a x.m x.mo x.ev x.su x.mx ta1 x.ts.length tc1 ha1 x.hs.length hc1 y.a y.m y.mo y.ev y.su y.mx ta2 y.ts.length tc2 ha2 y.hs.length hc2 x.ts y.ts x.hs y.hs W rfl rfl rfl rfl
  (by have:=fx.ev;omega) (by have:=fy.ev;omega) (by have:=fx.su;omega) (by have:=fy.su;omega)
  (fun V hV=>with_tags x.ts y.ts ta1 ta2 tc1 tc2 V (by have:=fx.tt;have:=fy.tt;omega) sT1 sT2 ((hT1.below hW).below hV) ((hT2.below hW).below hV))
  (fun V hV=>with_hours x.hs y.hs ha1 ha2 hc1 hc2 V (by have:=fx.lh;have:=fy.lh;omega) (fun z hz=>by have:=fx.hs z hz;omega) (fun z hz=>by have:=fy.hs z hz;omega) sH1 sH2 ((hH1.below hW).below hV) ((hH2.below hW).below hV))
end WinR
namespace WinR
open RowG (MadeG Rws)
open EvtR (Pt)
open LtR (lt)
open CatR (Blk Blk.new)
set_option maxRecDepth 100000 in
set_option maxHeartbeats 16000000 in
theorem swj_in (P:Value→Nat→World→Prop) (r1 r2:Bool) (a1 m1:ByteArray) (mo1 ev1 su1 mx1:Int) (ta1:Option Addr) (tl1 tc1:Nat) (ha1:Option Addr) (hl1 hc1:Nat) (a2 m2:ByteArray) (mo2 ev2 su2 mx2:Int) (ta2:Option Addr) (tl2 tc2:Nat) (ha2:Option Addr) (hl2 hc2:Nat) (w:World)
 (hK:∀v base W W' g,P v base W→W.grownBy W' (some g)→g<base→P v base W')
 (hr1:∀W,Below w.heap.size w W→Calls Tryd.prog 12 #[.agg #[.string a1,.string m1,.int .i64 mo1,.int .i64 ev1,.int .i64 su1,.int .i64 mx1,.slice ta1 tl1 tc1,.slice ha1 hl1 hc1]] W fun e w'=>e=.returned (.bool r1)∧Below W.heap.size W w')
 (hr2:∀W,Below w.heap.size w W→Calls Tryd.prog 12 #[.agg #[.string a2,.string m2,.int .i64 mo2,.int .i64 ev2,.int .i64 su2,.int .i64 mx2,.slice ta2 tl2 tc2,.slice ha2 hl2 hc2]] W fun e w'=>e=.returned (.bool r2)∧Below W.heap.size W w')
 (hj:r1=true→r2=true→∀W,Below w.heap.size w W→Calls Tryd.prog 22 #[.agg #[.string a1,.string m1,.int .i64 mo1,.int .i64 ev1,.int .i64 su1,.int .i64 mx1,.slice ta1 tl1 tc1,.slice ha1 hl1 hc1],.agg #[.string a2,.string m2,.int .i64 mo2,.int .i64 ev2,.int .i64 su2,.int .i64 mx2,.slice ta2 tl2 tc2,.slice ha2 hl2 hc2]] W fun e w'=>∃A M mo ev su mx ta tl tc ha hl hc cd,e=.returned (.agg #[.string A,.string M,.int .i64 mo,.int .i64 ev,.int .i64 su,.int .i64 mx,.slice ta tl tc,.slice ha hl hc,.int .i64 cd])∧P (.agg #[.string A,.string M,.int .i64 mo,.int .i64 ev,.int .i64 su,.int .i64 mx,.slice ta tl tc,.slice ha hl hc,.int .i64 cd]) W.heap.size w'∧Below W.heap.size W w') :
 Calls Tryd.prog 8 #[.agg #[.string a1,.string m1,.int .i64 mo1,.int .i64 ev1,.int .i64 su1,.int .i64 mx1,.slice ta1 tl1 tc1,.slice ha1 hl1 hc1],.agg #[.string a2,.string m2,.int .i64 mo2,.int .i64 ev2,.int .i64 su2,.int .i64 mx2,.slice ta2 tl2 tc2,.slice ha2 hl2 hc2]] w fun e w'=>∃v,e=.returned v∧(((r1&&r2)=false∧v=.agg #[.string ⟨#[]⟩,.string ⟨#[]⟩,.int .i64 0,.int .i64 0,.int .i64 0,.int .i64 0,.slice none 0 0,.slice none 0 0,.int .i64 1])∨((r1&&r2)=true∧∃base,w.heap.size≤base∧P v base w'))∧Below w.heap.size w w':=by
 have HK:=H_ hK
 have HR1:=H_ hr1
 have HR2:=H_ hr2
 have HJ:=H_ hj
 have HIL:=H_ sill
 clear hK hr1 hr2 hj
 obtain ⟨W0,hW0⟩:∃W0,W0=(((w.alloc (.cells #[.string a1,.string m1,.int .i64 mo1,.int .i64 ev1,.int .i64 su1,.int .i64 mx1,.slice ta1 tl1 tc1,.slice ha1 hl1 hc1] 26)).alloc (.cells #[.string a2,.string m2,.int .i64 mo2,.int .i64 ev2,.int .i64 su2,.int .i64 mx2,.slice ta2 tl2 tc2,.slice ha2 hl2 hc2] 26)).alloc (.cells #[.string ⟨#[]⟩,.string ⟨#[]⟩,.int .i64 0,.int .i64 0,.int .i64 0,.int .i64 0,.slice none 0 0,.slice none 0 0,.int .i64 0] 30)):=⟨_,rfl⟩
 have HB0:Hid (Below w.heap.size w W0):=H_ (by rw [hW0];exact (((Below.refl _ _).alloc (by simp;try omega) _).alloc (by simp;try omega) _).alloc (by simp;try omega) _)
 have HA0:Hid (Blk w.heap.size [.string a1,.string m1,.int .i64 mo1,.int .i64 ev1,.int .i64 su1,.int .i64 mx1,.slice ta1 tl1 tc1,.slice ha1 hl1 hc1] W0):=H_ (by
  rw [hW0]
  exact ((Blk.new w [.string a1,.string m1,.int .i64 mo1,.int .i64 ev1,.int .i64 su1,.int .i64 mx1,.slice ta1 tl1 tc1,.slice ha1 hl1 hc1] 26).below ((Below.refl _ _).alloc (Nat.le_refl _) _)).below ((Below.refl _ _).alloc (Nat.le_refl _) _))
 have HC0:Hid (Blk (w.heap.size+1) [.string a2,.string m2,.int .i64 mo2,.int .i64 ev2,.int .i64 su2,.int .i64 mx2,.slice ta2 tl2 tc2,.slice ha2 hl2 hc2] W0):=H_ (by
  have:=(Blk.new (w.alloc (.cells #[.string a1,.string m1,.int .i64 mo1,.int .i64 ev1,.int .i64 su1,.int .i64 mx1,.slice ta1 tl1 tc1,.slice ha1 hl1 hc1] 26)) [.string a2,.string m2,.int .i64 mo2,.int .i64 ev2,.int .i64 su2,.int .i64 mx2,.slice ta2 tl2 tc2,.slice ha2 hl2 hc2] 26).below ((Below.refl _ _).alloc (Nat.le_refl _) (.cells #[.string ⟨#[]⟩,.string ⟨#[]⟩,.int .i64 0,.int .i64 0,.int .i64 0,.int .i64 0,.slice none 0 0,.slice none 0 0,.int .i64 0] 30))
  rw [hW0]
  simp only [World.size_alloc] at this
  exact this)
 have HP0:Hid (Pt (w.heap.size+1+1) 9 W0):=H_ (by
  have:=StR.pt_new ((w.alloc (.cells #[.string a1,.string m1,.int .i64 mo1,.int .i64 ev1,.int .i64 su1,.int .i64 mx1,.slice ta1 tl1 tc1,.slice ha1 hl1 hc1] 26)).alloc (.cells #[.string a2,.string m2,.int .i64 mo2,.int .i64 ev2,.int .i64 su2,.int .i64 mx2,.slice ta2 tl2 tc2,.slice ha2 hl2 hc2] 26)) [.string ⟨#[]⟩,.string ⟨#[]⟩,.int .i64 0,.int .i64 0,.int .i64 0,.int .i64 0,.slice none 0 0,.slice none 0 0,.int .i64 0] 30
  rw [hW0]
  simp only [World.size_alloc] at this
  exact this)
 have HW:=H_ hW0
 clear hW0
 go_enter Tryd.func8,Tryd.ntmps8
 have p0:W0.cell? ⟨w.heap.size,0,none⟩=some (.string a1):=HA0.out.2 0 (by simp)
 have p1:W0.cell? ⟨w.heap.size,1,none⟩=some (.string m1):=HA0.out.2 1 (by simp)
 have p2:W0.cell? ⟨w.heap.size,2,none⟩=some (.int .i64 mo1):=HA0.out.2 2 (by simp)
 have p3:W0.cell? ⟨w.heap.size,3,none⟩=some (.int .i64 ev1):=HA0.out.2 3 (by simp)
 have p4:W0.cell? ⟨w.heap.size,4,none⟩=some (.int .i64 su1):=HA0.out.2 4 (by simp)
 have p5:W0.cell? ⟨w.heap.size,5,none⟩=some (.int .i64 mx1):=HA0.out.2 5 (by simp)
 have p6:W0.cell? ⟨w.heap.size,6,none⟩=some (.slice ta1 tl1 tc1):=HA0.out.2 6 (by simp)
 have p7:W0.cell? ⟨w.heap.size,7,none⟩=some (.slice ha1 hl1 hc1):=HA0.out.2 7 (by simp)
 have pl:=HA0.out.1
 go_wp2_with fail
 rw [←HW.out]
 refine (HR1.out _ HB0.out).mono ?_
 rintro e w1 ⟨rfl,hb1⟩
 have HB1:=H_ (HB0.out.trans (hb1.mono HB0.out.size))
 have HA1:=H_ (HA0.out.below hb1)
 have HC1:=H_ (HC0.out.below hb1)
 have HP1:=H_ (HP0.out.below hb1)
 clear hb1 HB0 HA0 HC0 HP0
 clear p0 p1 p2 p3 p4 p5 p6 p7 pl
 cases r1
 ·go_wp2_with fail
  refine (HIL.out 1 _).mono ?_
  rintro e w6 ⟨rfl,hb6⟩
  have HB6:=H_ (HB1.out.trans (hb6.mono HB1.out.size))
  have HP6:=H_ (HP1.out.below hb6)
  clear hb6
  have hp9:=HP6.out
  have hl9:=hp9.lt
  obtain ⟨ov0,r0⟩:=hp9.has 0 (by omega)
  have f0:=hp9.free 0 (by omega)
  obtain ⟨ov1,r1⟩:=hp9.has 1 (by omega)
  have f1:=hp9.free 1 (by omega)
  obtain ⟨ov2,r2⟩:=hp9.has 2 (by omega)
  have f2:=hp9.free 2 (by omega)
  obtain ⟨ov3,r3⟩:=hp9.has 3 (by omega)
  have f3:=hp9.free 3 (by omega)
  obtain ⟨ov4,r4⟩:=hp9.has 4 (by omega)
  have f4:=hp9.free 4 (by omega)
  obtain ⟨ov5,r5⟩:=hp9.has 5 (by omega)
  have f5:=hp9.free 5 (by omega)
  obtain ⟨ov6,r6⟩:=hp9.has 6 (by omega)
  have f6:=hp9.free 6 (by omega)
  obtain ⟨ov7,r7⟩:=hp9.has 7 (by omega)
  have f7:=hp9.free 7 (by omega)
  obtain ⟨ov8,r8⟩:=hp9.has 8 (by omega)
  have f8:=hp9.free 8 (by omega)
  have hgf:=StR.stL_grown (w.heap.size+1+1) [.string ⟨#[]⟩,.string ⟨#[]⟩,.int .i64 0,.int .i64 0,.int .i64 0,.int .i64 0,.slice none 0 0,.slice none 0 0,.int .i64 1] 0 w6
  have HBF:=H_ (HB6.out.grown hgf HB6.out.size (fun k e=>by simp only [Option.some.injEq] at e;omega))
  have HGF:=H_ hgf
  simp only [StR.stL,Nat.zero_add,Nat.reduceAdd] at HBF HGF
  clear hgf hp9
  go_wp2_with fail
  refine bodyPost_ret (v:=.agg #[.string ⟨#[]⟩,.string ⟨#[]⟩,.int .i64 0,.int .i64 0,.int .i64 0,.int .i64 0,.slice none 0 0,.slice none 0 0,.int .i64 1]) (by simp [results,Tryd.results8,go_sem,r0,r1,r2,r3,r4,r5,r6,r7,r8]) rfl ⟨_,rfl,.inl ⟨rfl,rfl⟩,HBF.out⟩
 have p0:w1.cell? ⟨w.heap.size+1,0,none⟩=some (.string a2):=HC1.out.2 0 (by simp)
 have p1:w1.cell? ⟨w.heap.size+1,1,none⟩=some (.string m2):=HC1.out.2 1 (by simp)
 have p2:w1.cell? ⟨w.heap.size+1,2,none⟩=some (.int .i64 mo2):=HC1.out.2 2 (by simp)
 have p3:w1.cell? ⟨w.heap.size+1,3,none⟩=some (.int .i64 ev2):=HC1.out.2 3 (by simp)
 have p4:w1.cell? ⟨w.heap.size+1,4,none⟩=some (.int .i64 su2):=HC1.out.2 4 (by simp)
 have p5:w1.cell? ⟨w.heap.size+1,5,none⟩=some (.int .i64 mx2):=HC1.out.2 5 (by simp)
 have p6:w1.cell? ⟨w.heap.size+1,6,none⟩=some (.slice ta2 tl2 tc2):=HC1.out.2 6 (by simp)
 have p7:w1.cell? ⟨w.heap.size+1,7,none⟩=some (.slice ha2 hl2 hc2):=HC1.out.2 7 (by simp)
 have pl:=HC1.out.1
 go_wp2_with fail
 refine (HR2.out _ HB1.out).mono ?_
 rintro e w2 ⟨rfl,hb2⟩
 have HB2:=H_ (HB1.out.trans (hb2.mono HB1.out.size))
 have HA2:=H_ (HA1.out.below hb2)
 have HC2:=H_ (HC1.out.below hb2)
 have HP2:=H_ (HP1.out.below hb2)
 clear hb2 HB1 HA1 HC1 HP1
 clear p0 p1 p2 p3 p4 p5 p6 p7 pl
 cases r2
 ·go_wp2_with fail
  refine (HIL.out 1 _).mono ?_
  rintro e w6 ⟨rfl,hb6⟩
  have HB6:=H_ (HB2.out.trans (hb6.mono HB2.out.size))
  have HP6:=H_ (HP2.out.below hb6)
  clear hb6
  have hp9:=HP6.out
  have hl9:=hp9.lt
  obtain ⟨ov0,r0⟩:=hp9.has 0 (by omega)
  have f0:=hp9.free 0 (by omega)
  obtain ⟨ov1,r1⟩:=hp9.has 1 (by omega)
  have f1:=hp9.free 1 (by omega)
  obtain ⟨ov2,r2⟩:=hp9.has 2 (by omega)
  have f2:=hp9.free 2 (by omega)
  obtain ⟨ov3,r3⟩:=hp9.has 3 (by omega)
  have f3:=hp9.free 3 (by omega)
  obtain ⟨ov4,r4⟩:=hp9.has 4 (by omega)
  have f4:=hp9.free 4 (by omega)
  obtain ⟨ov5,r5⟩:=hp9.has 5 (by omega)
  have f5:=hp9.free 5 (by omega)
  obtain ⟨ov6,r6⟩:=hp9.has 6 (by omega)
  have f6:=hp9.free 6 (by omega)
  obtain ⟨ov7,r7⟩:=hp9.has 7 (by omega)
  have f7:=hp9.free 7 (by omega)
  obtain ⟨ov8,r8⟩:=hp9.has 8 (by omega)
  have f8:=hp9.free 8 (by omega)
  have hgf:=StR.stL_grown (w.heap.size+1+1) [.string ⟨#[]⟩,.string ⟨#[]⟩,.int .i64 0,.int .i64 0,.int .i64 0,.int .i64 0,.slice none 0 0,.slice none 0 0,.int .i64 1] 0 w6
  have HBF:=H_ (HB6.out.grown hgf HB6.out.size (fun k e=>by simp only [Option.some.injEq] at e;omega))
  have HGF:=H_ hgf
  simp only [StR.stL,Nat.zero_add,Nat.reduceAdd] at HBF HGF
  clear hgf hp9
  go_wp2_with fail
  refine bodyPost_ret (v:=.agg #[.string ⟨#[]⟩,.string ⟨#[]⟩,.int .i64 0,.int .i64 0,.int .i64 0,.int .i64 0,.slice none 0 0,.slice none 0 0,.int .i64 1]) (by simp [results,Tryd.results8,go_sem,r0,r1,r2,r3,r4,r5,r6,r7,r8]) rfl ⟨_,rfl,.inl ⟨rfl,rfl⟩,HBF.out⟩
 have p0:w2.cell? ⟨w.heap.size,0,none⟩=some (.string a1):=HA2.out.2 0 (by simp)
 have p1:w2.cell? ⟨w.heap.size,1,none⟩=some (.string m1):=HA2.out.2 1 (by simp)
 have p2:w2.cell? ⟨w.heap.size,2,none⟩=some (.int .i64 mo1):=HA2.out.2 2 (by simp)
 have p3:w2.cell? ⟨w.heap.size,3,none⟩=some (.int .i64 ev1):=HA2.out.2 3 (by simp)
 have p4:w2.cell? ⟨w.heap.size,4,none⟩=some (.int .i64 su1):=HA2.out.2 4 (by simp)
 have p5:w2.cell? ⟨w.heap.size,5,none⟩=some (.int .i64 mx1):=HA2.out.2 5 (by simp)
 have p6:w2.cell? ⟨w.heap.size,6,none⟩=some (.slice ta1 tl1 tc1):=HA2.out.2 6 (by simp)
 have p7:w2.cell? ⟨w.heap.size,7,none⟩=some (.slice ha1 hl1 hc1):=HA2.out.2 7 (by simp)
 have pl:=HA2.out.1
 have q0:w2.cell? ⟨w.heap.size+1,0,none⟩=some (.string a2):=HC2.out.2 0 (by simp)
 have q1:w2.cell? ⟨w.heap.size+1,1,none⟩=some (.string m2):=HC2.out.2 1 (by simp)
 have q2:w2.cell? ⟨w.heap.size+1,2,none⟩=some (.int .i64 mo2):=HC2.out.2 2 (by simp)
 have q3:w2.cell? ⟨w.heap.size+1,3,none⟩=some (.int .i64 ev2):=HC2.out.2 3 (by simp)
 have q4:w2.cell? ⟨w.heap.size+1,4,none⟩=some (.int .i64 su2):=HC2.out.2 4 (by simp)
 have q5:w2.cell? ⟨w.heap.size+1,5,none⟩=some (.int .i64 mx2):=HC2.out.2 5 (by simp)
 have q6:w2.cell? ⟨w.heap.size+1,6,none⟩=some (.slice ta2 tl2 tc2):=HC2.out.2 6 (by simp)
 have q7:w2.cell? ⟨w.heap.size+1,7,none⟩=some (.slice ha2 hl2 hc2):=HC2.out.2 7 (by simp)
 have ql:=HC2.out.1
 go_wp2_with fail
 refine (HJ.out (by trivial) (by trivial) _ HB2.out).mono ?_
 rintro e w6 ⟨A,M,mo,ev,su,mx,ta,tl,tc,ha,hl,hc,cd,rfl,hp6,hb6⟩
 have HB6:=H_ (HB2.out.trans (hb6.mono HB2.out.size))
 have HP6:=H_ (HP2.out.below hb6)
 have HQ6:=H_ hp6
 have HS2:Hid (w.heap.size+1+1<w2.heap.size):=H_ HP2.out.lt
 have HS2B:Hid (w.heap.size≤w2.heap.size):=H_ HB2.out.size
 clear hb6 hp6 HA2 HC2 HP2 HB2 HIL HR1 HR2 HJ
 clear p0 p1 p2 p3 p4 p5 p6 p7 pl
 clear q0 q1 q2 q3 q4 q5 q6 q7 ql
 have hp9:=HP6.out
 have hl9:=hp9.lt
 obtain ⟨ov0,r0⟩:=hp9.has 0 (by omega)
 have f0:=hp9.free 0 (by omega)
 obtain ⟨ov1,r1⟩:=hp9.has 1 (by omega)
 have f1:=hp9.free 1 (by omega)
 obtain ⟨ov2,r2⟩:=hp9.has 2 (by omega)
 have f2:=hp9.free 2 (by omega)
 obtain ⟨ov3,r3⟩:=hp9.has 3 (by omega)
 have f3:=hp9.free 3 (by omega)
 obtain ⟨ov4,r4⟩:=hp9.has 4 (by omega)
 have f4:=hp9.free 4 (by omega)
 obtain ⟨ov5,r5⟩:=hp9.has 5 (by omega)
 have f5:=hp9.free 5 (by omega)
 obtain ⟨ov6,r6⟩:=hp9.has 6 (by omega)
 have f6:=hp9.free 6 (by omega)
 obtain ⟨ov7,r7⟩:=hp9.has 7 (by omega)
 have f7:=hp9.free 7 (by omega)
 obtain ⟨ov8,r8⟩:=hp9.has 8 (by omega)
 have f8:=hp9.free 8 (by omega)
 have hgf:=StR.stL_grown (w.heap.size+1+1) [.string A,.string M,.int .i64 mo,.int .i64 ev,.int .i64 su,.int .i64 mx,.slice ta tl tc,.slice ha hl hc,.int .i64 cd] 0 w6
 have HBF:=H_ (HB6.out.grown hgf HB6.out.size (fun k e=>by simp only [Option.some.injEq] at e;omega))
 have HGF:=H_ hgf
 simp only [StR.stL,Nat.zero_add,Nat.reduceAdd] at HBF HGF
 clear hgf hp9
 go_wp2_with fail
 refine bodyPost_ret (v:=.agg #[.string A,.string M,.int .i64 mo,.int .i64 ev,.int .i64 su,.int .i64 mx,.slice ta tl tc,.slice ha hl hc,.int .i64 cd]) (by simp [results,Tryd.results8,go_sem,r0,r1,r2,r3,r4,r5,r6,r7,r8]) rfl ⟨_,rfl,.inr ⟨rfl,_,HS2B.out,HK.out _ _ _ _ _ HQ6.out HGF.out HS2.out⟩,HBF.out⟩
end WinR
namespace WinR
open RowG LtR
open CatR (Blk Blk.new)
open DateR (Laid)
def grt (p q:Int):Int:=if q<p then p else q
def pk (hs:List H):Int:=hs.foldl (fun p x=>grt p x.s) 0
theorem pk_take (hs:List H) (k:Nat) (h:k<hs.length):pk (hs.take (k+1))=grt (pk (hs.take k)) (hs.getD k H.zero).s:=by
 unfold pk
 rw [take_more (z:=H.zero) hs k h,List.foldl_append]
 rfl
def valV (x:Wd) (g:Int):Int:=if g=1 then x.su else if g=2 then x.mx else if g=3 then (x.ts.length:Int) else if g=4 then pk x.hs else 0
def valueV (x:Wd) (g:Int):Int:=bif wB x then valV x g else 0
theorem smax_any (p q:Int) (w:World):Calls Tryd.prog 47 #[.int .i64 p,.int .i64 q] w fun e w'=>e=.returned (.int .i64 (grt p q))∧w'=w:=by
 unfold grt
 by_cases h:q<p
 ·rw [if_pos h]
  go_enter Tryd.func47,Tryd.ntmps47
  go_wp2
  go_ret
  exact ⟨rfl,rfl⟩
 ·rw [if_neg h]
  go_enter Tryd.func47,Tryd.ntmps47
  go_wp2
  go_ret
  exact ⟨rfl,rfl⟩
theorem agg1 (a m:ByteArray) (mo ev su mx:Int) (ta:Option Addr) (tl tc:Nat) (ha:Option Addr) (hl hc:Nat) (w:World):Calls Tryd.prog 50 #[.agg #[.string a,.string m,.int .i64 mo,.int .i64 ev,.int .i64 su,.int .i64 mx,.slice ta tl tc,.slice ha hl hc]] w fun e w'=>e=.returned (.int .i64 su)∧Below w.heap.size w w':=by
 go_enter Tryd.func50,Tryd.ntmps50
 go_wp2
 go_ret
 exact ⟨rfl,(Below.refl _ _).alloc (Nat.le_refl _) _⟩
theorem agg2 (a m:ByteArray) (mo ev su mx:Int) (ta:Option Addr) (tl tc:Nat) (ha:Option Addr) (hl hc:Nat) (w:World):Calls Tryd.prog 51 #[.agg #[.string a,.string m,.int .i64 mo,.int .i64 ev,.int .i64 su,.int .i64 mx,.slice ta tl tc,.slice ha hl hc]] w fun e w'=>e=.returned (.int .i64 mx)∧Below w.heap.size w w':=by
 go_enter Tryd.func51,Tryd.ntmps51
 go_wp2
 go_ret
 exact ⟨rfl,(Below.refl _ _).alloc (Nat.le_refl _) _⟩
theorem agg3 (a m:ByteArray) (mo ev su mx:Int) (ta:Option Addr) (tl tc:Nat) (ha:Option Addr) (hl hc:Nat) (w:World):Calls Tryd.prog 52 #[.agg #[.string a,.string m,.int .i64 mo,.int .i64 ev,.int .i64 su,.int .i64 mx,.slice ta tl tc,.slice ha hl hc]] w fun e w'=>e=.returned (.int .i64 (tl:Int))∧Below w.heap.size w w':=by
 go_enter Tryd.func52,Tryd.ntmps52
 go_wp2
 go_ret
 exact ⟨rfl,(Below.refl _ _).alloc (Nat.le_refl _) _⟩
set_option maxHeartbeats 4000000 in
theorem impl_peak (a m:ByteArray) (mo ev su mx:Int) (tv:Value) (ha:Option Addr) (hs:List H) (hc:Nat) (w:World) (hlen:hs.length≤1048576) (hI:Hrs ha hs w) :
 Calls Tryd.prog 53 #[.agg #[.string a,.string m,.int .i64 mo,.int .i64 ev,.int .i64 su,.int .i64 mx,tv,.slice ha hs.length hc]] w fun e w'=>e=.returned (.int .i64 (pk hs))∧Below w.heap.size w w':=by
 have HI:=H_ hI
 obtain ⟨len,hl⟩:∃len,len=hs.length:=⟨_,rfl⟩
 rw [←hl] at hlen ⊢
 have HL:=H_ hl
 have HE:Hid (pk (hs.take len)=pk hs):=H_ (by rw [List.take_of_length_le (by omega)])
 generalize pk hs=R at *
 clear hI hl
 have HB0:Hid (Below w.heap.size w (w.alloc (.cells #[.string a,.string m,.int .i64 mo,.int .i64 ev,.int .i64 su,.int .i64 mx,tv,.slice ha len hc] 26))):=H_ ((Below.refl _ _).alloc (Nat.le_refl _) _)
 go_enter Tryd.func53,Tryd.ntmps53
 go_wp2_with fail
 go_loopw [3,9] (fun y z wr=>∃k:Nat,k≤len∧y=.int .i64 (pk (hs.take k))∧z=.int .i64 k∧Hid (Below w.heap.size w wr)) (fun y z _=>len-(intOf z).toNat)
 case atStart=>exact ⟨0,by omega,rfl,rfl,HB0⟩
 case round =>
  obtain ⟨k,hk,rfl,rfl,HB⟩:=hrel
  by_cases hlt1:k<len
  ·have hlt2:(k:Int)<(len:Int):=by omega
   obtain ⟨b,off,rfl,hbl,c0,c1⟩:=(HI.out.below HB.out).at k (by have:=HL.out;omega)
   have HP:=H_ (pk_take hs k (by have:=HL.out;omega))
   generalize hs.getD k H.zero=X at *
   obtain ⟨xh,xs⟩:=X
   dsimp only at c0 c1 HP
   generalize pk (hs.take k)=T at *
   by_cases hm:xs<T
   ·have HP2:Hid (pk (hs.take (k+1))=T):=H_ (by rw [HP.out];unfold grt;rw [if_pos hm])
    have hm2:max T xs=T:=by omega
    have hm3:¬T<xs:=by omega
    have hm4:¬T≤xs:=by omega
    go_wp2_with fail
    go_roundw
    case rel=>exact ⟨k+1,by omega,by first|(rw [HP2.out];done)|(rw [HP2.out];congr 1;omega),by go_num,H_ (HB.out.alloc HB.out.size _)⟩
    case measure=>simp [intOf];omega
   ·have HP2:Hid (pk (hs.take (k+1))=xs):=H_ (by rw [HP.out];unfold grt;rw [if_neg hm])
    have hm2:max T xs=xs:=by omega
    have hm4:T≤xs:=by omega
    go_wp2_with fail
    go_roundw
    case rel=>exact ⟨k+1,by omega,by first|(rw [HP2.out];done)|(rw [HP2.out];congr 1;omega),by go_num,H_ (HB.out.alloc HB.out.size _)⟩
    case measure=>simp [intOf];omega
  ·have hlt2:¬(k:Int)<(len:Int):=by omega
   obtain rfl:k=len:=by omega
   have HE2:=HE.out
   generalize pk (hs.take k)=T at *
   subst HE2
   go_wp2_with fail
   go_ret
   exact ⟨rfl,HB.out⟩
theorem impl_aggs (w:World):Calls Tryd.prog 23 #[] w fun e w'=>∃g,e=.returned (.slice (some ⟨g,0,none⟩) 4 4)∧Blk g [.int .i64 1,.func (.func 50) #[] #[],.int .i64 2,.func (.func 51) #[] #[],.int .i64 3,.func (.func 52) #[] #[],.int .i64 4,.func (.func 53) #[] #[]] w'∧Below w.heap.size w w':=by
 go_enter Tryd.func23,Tryd.ntmps23
 go_wp2_with fail
 go_ret
 exact ⟨_,rfl,Blk.new w [.int .i64 1,.func (.func 50) #[] #[],.int .i64 2,.func (.func 51) #[] #[],.int .i64 3,.func (.func 52) #[] #[],.int .i64 4,.func (.func 53) #[] #[]] _,(Below.refl _ _).alloc (Nat.le_refl _) _⟩
set_option maxRecDepth 100000 in
set_option maxHeartbeats 8000000 in
theorem value_in (a m:ByteArray) (mo ev su mx:Int) (ta:Option Addr) (tl tc:Nat) (ha:Option Addr) (hl hc:Nat) (g P:Int) (w:World)
 (h2:∀W,Calls Tryd.prog 50 #[.agg #[.string a,.string m,.int .i64 mo,.int .i64 ev,.int .i64 su,.int .i64 mx,.slice ta tl tc,.slice ha hl hc]] W fun e w'=>e=.returned (.int .i64 su)∧Below W.heap.size W w')
 (h3:∀W,Calls Tryd.prog 51 #[.agg #[.string a,.string m,.int .i64 mo,.int .i64 ev,.int .i64 su,.int .i64 mx,.slice ta tl tc,.slice ha hl hc]] W fun e w'=>e=.returned (.int .i64 mx)∧Below W.heap.size W w')
 (h4:∀W,Calls Tryd.prog 52 #[.agg #[.string a,.string m,.int .i64 mo,.int .i64 ev,.int .i64 su,.int .i64 mx,.slice ta tl tc,.slice ha hl hc]] W fun e w'=>e=.returned (.int .i64 (tl:Int))∧Below W.heap.size W w')
 (h5:∀W,Below w.heap.size w W→Calls Tryd.prog 53 #[.agg #[.string a,.string m,.int .i64 mo,.int .i64 ev,.int .i64 su,.int .i64 mx,.slice ta tl tc,.slice ha hl hc]] W fun e w'=>e=.returned (.int .i64 P)∧Below W.heap.size W w')
 (h1:∀W,Below w.heap.size w W→Calls Tryd.prog 11 #[.agg #[.string a,.string m,.int .i64 mo,.int .i64 ev,.int .i64 su,.int .i64 mx,.slice ta tl tc,.slice ha hl hc]] W fun e w'=>e=.returned (.bool true)∧Below W.heap.size W w') :
 Calls Tryd.prog 9 #[.agg #[.string a,.string m,.int .i64 mo,.int .i64 ev,.int .i64 su,.int .i64 mx,.slice ta tl tc,.slice ha hl hc],.int .i64 g] w fun e w'=>e=.returned (.int .i64 (if g=1 then su else if g=2 then mx else if g=3 then (tl:Int) else if g=4 then P else 0))∧Below w.heap.size w w':=by
 have H1:=H_ h1
 have H2:=H_ h2
 have H3:=H_ h3
 have H4:=H_ h4
 have H5:=H_ h5
 have H0:=H_ impl_aggs
 clear h1 h2 h3 h4 h5
 have HV:Hid (∀v,v=(if g=1 then su else if g=2 then mx else if g=3 then (tl:Int) else if g=4 then P else 0)→v=(if g=1 then su else if g=2 then mx else if g=3 then (tl:Int) else if g=4 then P else 0)):=H_ (fun _ h=>h)
 generalize hR:(if g=1 then su else if g=2 then mx else if g=3 then (tl:Int) else if g=4 then P else 0)=R
 have HR:=H_ hR
 clear hR HV
 have HB0:Hid (Below w.heap.size w (w.alloc (.cells #[.string a,.string m,.int .i64 mo,.int .i64 ev,.int .i64 su,.int .i64 mx,.slice ta tl tc,.slice ha hl hc] 26))):=H_ ((Below.refl _ _).alloc (Nat.le_refl _) _)
 have HX0:=H_ (Blk.new w [.string a,.string m,.int .i64 mo,.int .i64 ev,.int .i64 su,.int .i64 mx,.slice ta tl tc,.slice ha hl hc] 26)
 go_enter Tryd.func9,Tryd.ntmps9
 go_wp2_with fail
 refine (H1.out _ HB0.out).mono ?_
 rintro e w1 ⟨rfl,hb1⟩
 have HB1:=H_ (HB0.out.trans (hb1.mono HB0.out.size))
 have HX1:=H_ (HX0.out.below hb1)
 clear hb1 HB0 HX0
 go_wp2_with fail
 refine (H0.out _).mono ?_
 rintro e w2 ⟨G,rfl,hA2,hb2⟩
 have HB2:=H_ (HB1.out.trans (hb2.mono HB1.out.size))
 have HX2:=H_ (HX1.out.below hb2)
 have HA2:=H_ hA2
 clear hb2 hA2 HB1 HX1
 go_wp2_with fail
 go_loopw [12] (fun z wr=>∃k:Nat,k≤4∧z=.int .i64 k∧Hid (∀j:Nat,j<k→g≠(j:Int)+1)∧Hid (Below w.heap.size w wr)∧Hid (Blk w.heap.size [.string a,.string m,.int .i64 mo,.int .i64 ev,.int .i64 su,.int .i64 mx,.slice ta tl tc,.slice ha hl hc] wr)∧Hid (Blk G [.int .i64 1,.func (.func 50) #[] #[],.int .i64 2,.func (.func 51) #[] #[],.int .i64 3,.func (.func 52) #[] #[],.int .i64 4,.func (.func 53) #[] #[]] wr)) (fun z _=>4-(intOf z).toNat)
 case atStart=>exact ⟨0,by omega,rfl,H_ (fun j hj=>absurd hj (by omega)),HB2,HX2,HA2⟩
 case round =>
  obtain ⟨k,hk,rfl,HN,HB,HX,HA⟩:=hrel
  have hxl:=HX.out.1
  have hgl:=HA.out.1
  rcases (show k=0∨k=1∨k=2∨k=3∨k=4 by omega) with rfl|rfl|rfl|rfl|rfl
  ·have k0:wr.cell? ⟨G,0,none⟩=some (.int .i64 1):=HA.out.2 0 (by simp)
   have k1:wr.cell? ⟨G,1,none⟩=some (.func (.func 50) #[] #[]):=HA.out.2 1 (by simp)
   have HBa:=H_ (HB.out.alloc HB.out.size (.cells #[.int .i64 1,.func (.func 50) #[] #[]] 65))
   have HXa:=H_ (HX.out.alloc (.cells #[.int .i64 1,.func (.func 50) #[] #[]] 65))
   have HAa:=H_ (HA.out.alloc (.cells #[.int .i64 1,.func (.func 50) #[] #[]] 65))
   by_cases hg:g=1
   ·subst hg
    have HR2:Hid (R=su):=H_ (by have h:=HR.out;simpa using h.symm)
    have x0:wr.cell? ⟨w.heap.size,0,none⟩=some (.string a):=HX.out.2 0 (by simp)
    have x1:wr.cell? ⟨w.heap.size,1,none⟩=some (.string m):=HX.out.2 1 (by simp)
    have x2:wr.cell? ⟨w.heap.size,2,none⟩=some (.int .i64 mo):=HX.out.2 2 (by simp)
    have x3:wr.cell? ⟨w.heap.size,3,none⟩=some (.int .i64 ev):=HX.out.2 3 (by simp)
    have x4:wr.cell? ⟨w.heap.size,4,none⟩=some (.int .i64 su):=HX.out.2 4 (by simp)
    have x5:wr.cell? ⟨w.heap.size,5,none⟩=some (.int .i64 mx):=HX.out.2 5 (by simp)
    have x6:wr.cell? ⟨w.heap.size,6,none⟩=some (.slice ta tl tc):=HX.out.2 6 (by simp)
    have x7:wr.cell? ⟨w.heap.size,7,none⟩=some (.slice ha hl hc):=HX.out.2 7 (by simp)
    go_wp2_with fail
    refine (H2.out _).mono ?_
    rintro e w3 ⟨rfl,hb3⟩
    have HB3:=H_ (HBa.out.trans (hb3.mono HBa.out.size))
    clear hb3
    go_wp2_with fail
    go_ret
    exact ⟨ret_int HR2.out.symm,HB3.out⟩
   ·have hg2:((1:Int)==g)=false:=by simp;omega
    have hg3:¬(1:Int)=g:=by omega
    go_wp2_with fail
    go_roundw
    case rel=>exact ⟨1,by omega,by go_num,H_ (fun j hj=>by
     by_cases e:j=0
     ·subst e;simpa using hg
     ·exact HN.out j (by omega)),HBa,HXa,HAa⟩
    case measure=>simp [intOf]
  ·have k0:wr.cell? ⟨G,2,none⟩=some (.int .i64 2):=HA.out.2 2 (by simp)
   have k1:wr.cell? ⟨G,3,none⟩=some (.func (.func 51) #[] #[]):=HA.out.2 3 (by simp)
   have HBa:=H_ (HB.out.alloc HB.out.size (.cells #[.int .i64 2,.func (.func 51) #[] #[]] 65))
   have HXa:=H_ (HX.out.alloc (.cells #[.int .i64 2,.func (.func 51) #[] #[]] 65))
   have HAa:=H_ (HA.out.alloc (.cells #[.int .i64 2,.func (.func 51) #[] #[]] 65))
   by_cases hg:g=2
   ·subst hg
    have HR2:Hid (R=mx):=H_ (by have h:=HR.out;simpa using h.symm)
    have x0:wr.cell? ⟨w.heap.size,0,none⟩=some (.string a):=HX.out.2 0 (by simp)
    have x1:wr.cell? ⟨w.heap.size,1,none⟩=some (.string m):=HX.out.2 1 (by simp)
    have x2:wr.cell? ⟨w.heap.size,2,none⟩=some (.int .i64 mo):=HX.out.2 2 (by simp)
    have x3:wr.cell? ⟨w.heap.size,3,none⟩=some (.int .i64 ev):=HX.out.2 3 (by simp)
    have x4:wr.cell? ⟨w.heap.size,4,none⟩=some (.int .i64 su):=HX.out.2 4 (by simp)
    have x5:wr.cell? ⟨w.heap.size,5,none⟩=some (.int .i64 mx):=HX.out.2 5 (by simp)
    have x6:wr.cell? ⟨w.heap.size,6,none⟩=some (.slice ta tl tc):=HX.out.2 6 (by simp)
    have x7:wr.cell? ⟨w.heap.size,7,none⟩=some (.slice ha hl hc):=HX.out.2 7 (by simp)
    go_wp2_with fail
    refine (H3.out _).mono ?_
    rintro e w3 ⟨rfl,hb3⟩
    have HB3:=H_ (HBa.out.trans (hb3.mono HBa.out.size))
    clear hb3
    go_wp2_with fail
    go_ret
    exact ⟨ret_int HR2.out.symm,HB3.out⟩
   ·have hg2:((2:Int)==g)=false:=by simp;omega
    have hg3:¬(2:Int)=g:=by omega
    go_wp2_with fail
    go_roundw
    case rel=>exact ⟨2,by omega,by go_num,H_ (fun j hj=>by
     by_cases e:j=1
     ·subst e;simpa using hg
     ·exact HN.out j (by omega)),HBa,HXa,HAa⟩
    case measure=>simp [intOf]
  ·have k0:wr.cell? ⟨G,4,none⟩=some (.int .i64 3):=HA.out.2 4 (by simp)
   have k1:wr.cell? ⟨G,5,none⟩=some (.func (.func 52) #[] #[]):=HA.out.2 5 (by simp)
   have HBa:=H_ (HB.out.alloc HB.out.size (.cells #[.int .i64 3,.func (.func 52) #[] #[]] 65))
   have HXa:=H_ (HX.out.alloc (.cells #[.int .i64 3,.func (.func 52) #[] #[]] 65))
   have HAa:=H_ (HA.out.alloc (.cells #[.int .i64 3,.func (.func 52) #[] #[]] 65))
   by_cases hg:g=3
   ·subst hg
    have HR2:Hid (R=(tl:Int)):=H_ (by have h:=HR.out;simpa using h.symm)
    have x0:wr.cell? ⟨w.heap.size,0,none⟩=some (.string a):=HX.out.2 0 (by simp)
    have x1:wr.cell? ⟨w.heap.size,1,none⟩=some (.string m):=HX.out.2 1 (by simp)
    have x2:wr.cell? ⟨w.heap.size,2,none⟩=some (.int .i64 mo):=HX.out.2 2 (by simp)
    have x3:wr.cell? ⟨w.heap.size,3,none⟩=some (.int .i64 ev):=HX.out.2 3 (by simp)
    have x4:wr.cell? ⟨w.heap.size,4,none⟩=some (.int .i64 su):=HX.out.2 4 (by simp)
    have x5:wr.cell? ⟨w.heap.size,5,none⟩=some (.int .i64 mx):=HX.out.2 5 (by simp)
    have x6:wr.cell? ⟨w.heap.size,6,none⟩=some (.slice ta tl tc):=HX.out.2 6 (by simp)
    have x7:wr.cell? ⟨w.heap.size,7,none⟩=some (.slice ha hl hc):=HX.out.2 7 (by simp)
    go_wp2_with fail
    refine (H4.out _).mono ?_
    rintro e w3 ⟨rfl,hb3⟩
    have HB3:=H_ (HBa.out.trans (hb3.mono HBa.out.size))
    clear hb3
    go_wp2_with fail
    go_ret
    exact ⟨ret_int HR2.out.symm,HB3.out⟩
   ·have hg2:((3:Int)==g)=false:=by simp;omega
    have hg3:¬(3:Int)=g:=by omega
    go_wp2_with fail
    go_roundw
    case rel=>exact ⟨3,by omega,by go_num,H_ (fun j hj=>by
     by_cases e:j=2
     ·subst e;simpa using hg
     ·exact HN.out j (by omega)),HBa,HXa,HAa⟩
    case measure=>simp [intOf]
  ·have k0:wr.cell? ⟨G,6,none⟩=some (.int .i64 4):=HA.out.2 6 (by simp)
   have k1:wr.cell? ⟨G,7,none⟩=some (.func (.func 53) #[] #[]):=HA.out.2 7 (by simp)
   have HBa:=H_ (HB.out.alloc HB.out.size (.cells #[.int .i64 4,.func (.func 53) #[] #[]] 65))
   have HXa:=H_ (HX.out.alloc (.cells #[.int .i64 4,.func (.func 53) #[] #[]] 65))
   have HAa:=H_ (HA.out.alloc (.cells #[.int .i64 4,.func (.func 53) #[] #[]] 65))
   by_cases hg:g=4
   ·subst hg
    have HR2:Hid (R=P):=H_ (by have h:=HR.out;simpa using h.symm)
    have x0:wr.cell? ⟨w.heap.size,0,none⟩=some (.string a):=HX.out.2 0 (by simp)
    have x1:wr.cell? ⟨w.heap.size,1,none⟩=some (.string m):=HX.out.2 1 (by simp)
    have x2:wr.cell? ⟨w.heap.size,2,none⟩=some (.int .i64 mo):=HX.out.2 2 (by simp)
    have x3:wr.cell? ⟨w.heap.size,3,none⟩=some (.int .i64 ev):=HX.out.2 3 (by simp)
    have x4:wr.cell? ⟨w.heap.size,4,none⟩=some (.int .i64 su):=HX.out.2 4 (by simp)
    have x5:wr.cell? ⟨w.heap.size,5,none⟩=some (.int .i64 mx):=HX.out.2 5 (by simp)
    have x6:wr.cell? ⟨w.heap.size,6,none⟩=some (.slice ta tl tc):=HX.out.2 6 (by simp)
    have x7:wr.cell? ⟨w.heap.size,7,none⟩=some (.slice ha hl hc):=HX.out.2 7 (by simp)
    go_wp2_with fail
    refine (H5.out _ HBa.out).mono ?_
    rintro e w3 ⟨rfl,hb3⟩
    have HB3:=H_ (HBa.out.trans (hb3.mono HBa.out.size))
    clear hb3
    go_wp2_with fail
    go_ret
    exact ⟨ret_int HR2.out.symm,HB3.out⟩
   ·have hg2:((4:Int)==g)=false:=by simp;omega
    have hg3:¬(4:Int)=g:=by omega
    go_wp2_with fail
    go_roundw
    case rel=>exact ⟨4,by omega,by go_num,H_ (fun j hj=>by
     by_cases e:j=3
     ·subst e;simpa using hg
     ·exact HN.out j (by omega)),HBa,HXa,HAa⟩
    case measure=>simp [intOf]
  ·have HR2:Hid (R=0):=H_ (by
    have h:=HR.out
    have n0:=HN.out 0 (by omega)
    have n1:=HN.out 1 (by omega)
    have n2:=HN.out 2 (by omega)
    have n3:=HN.out 3 (by omega)
    rw [if_neg (by omega),if_neg (by omega),if_neg (by omega),if_neg (by omega)] at h
    exact h.symm)
   go_wp2_with fail
   go_ret
   exact ⟨ret_int HR2.out.symm,HB.out⟩
theorem value_no (a m:ByteArray) (mo ev su mx:Int) (ta:Option Addr) (tl tc:Nat) (ha:Option Addr) (hl hc:Nat) (g:Int) (w:World)
 (h1:∀W,Below w.heap.size w W→Calls Tryd.prog 11 #[.agg #[.string a,.string m,.int .i64 mo,.int .i64 ev,.int .i64 su,.int .i64 mx,.slice ta tl tc,.slice ha hl hc]] W fun e w'=>e=.returned (.bool false)∧Below W.heap.size W w') :
 Calls Tryd.prog 9 #[.agg #[.string a,.string m,.int .i64 mo,.int .i64 ev,.int .i64 su,.int .i64 mx,.slice ta tl tc,.slice ha hl hc],.int .i64 g] w fun e w'=>e=.returned (.int .i64 0)∧Below w.heap.size w w':=by
 have H1:=H_ h1
 clear h1
 have HB0:Hid (Below w.heap.size w (w.alloc (.cells #[.string a,.string m,.int .i64 mo,.int .i64 ev,.int .i64 su,.int .i64 mx,.slice ta tl tc,.slice ha hl hc] 26))):=H_ ((Below.refl _ _).alloc (Nat.le_refl _) _)
 go_enter Tryd.func9,Tryd.ntmps9
 go_wp2_with fail
 refine (H1.out _ HB0.out).mono ?_
 rintro e w1 ⟨rfl,hb1⟩
 have HB1:=H_ (HB0.out.trans (hb1.mono HB0.out.size))
 clear hb1
 go_wp2_with fail
 go_ret
 exact ⟨rfl,HB1.out⟩
theorem impl_value (x:Wd) (g:Int) (ta:Option Addr) (tc:Nat) (ha:Option Addr) (hc:Nat) (w:World) (h1:x.a.size≤1048576) (h2:x.m.size≤1048576) (h3:x.ts.length≤1048576) (h4:∀t∈x.ts,t.size≤1048576) (h5:x.hs.length≤1048576) (hL:Laid w) (hT:Tgs ta x.ts w) (hH:Hrs ha x.hs w) :
 Calls Tryd.prog 9 #[.agg (wcells x ta tc ha hc),.int .i64 g] w fun e w'=>e=.returned (.int .i64 (valueV x g))∧Below w.heap.size w w':=by
 have hr:=fun W (hW:Below w.heap.size w W)=>impl_window_right x ta tc ha hc W h1 h2 h3 h4 h5 (hL.below hW) (hT.below hW) (hH.below hW)
 unfold valueV valV
 cases hb:wB x
 ·rw [hb] at hr
  exact value_no x.a x.m x.mo x.ev x.su x.mx ta x.ts.length tc ha x.hs.length hc g w hr
 ·rw [hb] at hr
  exact value_in x.a x.m x.mo x.ev x.su x.mx ta x.ts.length tc ha x.hs.length hc g (pk x.hs) w (fun W=>agg1 _ _ _ _ _ _ _ _ _ _ _ _ W) (fun W=>agg2 _ _ _ _ _ _ _ _ _ _ _ _ W) (fun W=>agg3 _ _ _ _ _ _ _ _ _ _ _ _ W) (fun W hW=>impl_peak _ _ _ _ _ _ _ ha x.hs hc W h5 (hH.below hW)) hr
set_option maxRecDepth 100000 in
set_option maxHeartbeats 8000000 in
theorem svalue_in (a m:ByteArray) (mo ev su mx:Int) (ta:Option Addr) (tl tc:Nat) (ha:Option Addr) (hs:List H) (hc:Nat) (g:Int) (w:World) (hlen:hs.length≤1048576) (hH:Hrs ha hs w) :
 Calls Tryd.prog 24 #[.agg #[.string a,.string m,.int .i64 mo,.int .i64 ev,.int .i64 su,.int .i64 mx,.slice ta tl tc,.slice ha hs.length hc],.int .i64 g] w fun e w'=>e=.returned (.int .i64 (if g=1 then su else if g=2 then mx else if g=3 then (tl:Int) else if g=4 then pk hs else 0))∧Below w.heap.size w w':=by
 have HI:=H_ hH
 obtain ⟨hl,hhl⟩:∃hl,hl=hs.length:=⟨_,rfl⟩
 rw [←hhl] at hlen ⊢
 have HL:=H_ hhl
 have HE:Hid (pk (hs.take hl)=pk hs):=H_ (by rw [List.take_of_length_le (by omega)])
 clear hH hhl
 have HB0:Hid (Below w.heap.size w (w.alloc (.cells #[.string a,.string m,.int .i64 mo,.int .i64 ev,.int .i64 su,.int .i64 mx,.slice ta tl tc,.slice ha hl hc] 26))):=H_ ((Below.refl _ _).alloc (Nat.le_refl _) _)
 have HX0:=H_ (Blk.new w [.string a,.string m,.int .i64 mo,.int .i64 ev,.int .i64 su,.int .i64 mx,.slice ta tl tc,.slice ha hl hc] 26)
 by_cases g1:g=1
 ·subst g1
  rw [if_pos rfl]
  go_enter Tryd.func24,Tryd.ntmps24
  go_wp2_with fail
  go_ret
  exact ⟨rfl,HB0.out⟩
 by_cases g2:g=2
 ·subst g2
  rw [if_neg (by omega),if_pos rfl]
  go_enter Tryd.func24,Tryd.ntmps24
  go_wp2_with fail
  go_ret
  exact ⟨rfl,HB0.out⟩
 by_cases g3:g=3
 ·subst g3
  rw [if_neg (by omega),if_neg (by omega),if_pos rfl]
  go_enter Tryd.func24,Tryd.ntmps24
  go_wp2_with fail
  go_ret
  exact ⟨rfl,HB0.out⟩
 by_cases g4:g=4
 ·subst g4
  rw [if_neg (by omega),if_neg (by omega),if_neg (by omega),if_pos rfl]
  generalize pk hs=R at *
  go_enter Tryd.func24,Tryd.ntmps24
  go_wp2_with fail
  go_loopw [5,6] (fun y z wr=>∃k:Nat,k≤hl∧y=.int .i64 (pk (hs.take k))∧z=.int .i64 k∧Hid (Below w.heap.size w wr)∧Hid (Blk w.heap.size [.string a,.string m,.int .i64 mo,.int .i64 ev,.int .i64 su,.int .i64 mx,.slice ta tl tc,.slice ha hl hc] wr)) (fun y z _=>hl-(intOf z).toNat)
  case atStart=>exact ⟨0,by omega,rfl,rfl,HB0,HX0⟩
  case round =>
   obtain ⟨k,hk,rfl,rfl,HB,HX⟩:=hrel
   have hxl:=HX.out.1
   have x7:wr.cell? ⟨w.heap.size,7,none⟩=some (.slice ha hl hc):=HX.out.2 7 (by simp)
   by_cases hlt1:k<hl
   ·have hlt2:(k:Int)<(hl:Int):=by omega
    obtain ⟨b,off,rfl,hbl,c0,c1⟩:=(HI.out.below HB.out).at k (by have:=HL.out;omega)
    have HP:=H_ (pk_take hs k (by have:=HL.out;omega))
    generalize hs.getD k H.zero=X at *
    obtain ⟨xh,xs⟩:=X
    dsimp only at c0 c1 HP
    generalize pk (hs.take k)=T at *
    have HM:=H_ (fun w=>smax_any T xs w)
    generalize grt T xs=T2 at *
    go_wp2_with fail
    refine (HM.out _).mono ?_
    rintro e w2 ⟨rfl,rfl⟩
    go_wp2_with fail
    go_roundw
    case rel=>exact ⟨k+1,by omega,by rw [HP.out],by go_num,HB,HX⟩
    case measure=>simp [intOf];omega
   ·have hlt2:¬(k:Int)<(hl:Int):=by omega
    obtain rfl:k=hl:=by omega
    have HE2:=HE.out
    generalize pk (hs.take k)=T at *
    subst HE2
    go_wp2_with fail
    go_ret
    exact ⟨rfl,HB.out⟩
 ·rw [if_neg g1,if_neg g2,if_neg g3,if_neg g4]
  have q1:(g==1)=false:=by simpa using g1
  have q2:(g==2)=false:=by simpa using g2
  have q3:(g==3)=false:=by simpa using g3
  have q4:(g==4)=false:=by simpa using g4
  go_enter Tryd.func24,Tryd.ntmps24
  go_wp2_with fail
  go_ret
  exact ⟨rfl,HB0.out⟩
theorem svalue_all (a m:ByteArray) (mo ev su mx:Int) (ta:Option Addr) (tl tc:Nat) (ha:Option Addr) (hl hc:Nat) (g V:Int) (r:Bool) (w:World)
 (h1:∀W,Below w.heap.size w W→Calls Tryd.prog 12 #[.agg #[.string a,.string m,.int .i64 mo,.int .i64 ev,.int .i64 su,.int .i64 mx,.slice ta tl tc,.slice ha hl hc]] W fun e w'=>e=.returned (.bool r)∧Below W.heap.size W w')
 (h2:∀W,Below w.heap.size w W→Calls Tryd.prog 24 #[.agg #[.string a,.string m,.int .i64 mo,.int .i64 ev,.int .i64 su,.int .i64 mx,.slice ta tl tc,.slice ha hl hc],.int .i64 g] W fun e w'=>e=.returned (.int .i64 V)∧Below W.heap.size W w') :
 Calls Tryd.prog 10 #[.agg #[.string a,.string m,.int .i64 mo,.int .i64 ev,.int .i64 su,.int .i64 mx,.slice ta tl tc,.slice ha hl hc],.int .i64 g] w fun e w'=>e=.returned (.int .i64 (bif r then V else 0))∧Below w.heap.size w w':=by
 have H1:=H_ h1
 have H2:=H_ h2
 clear h1 h2
 have HB0:Hid (Below w.heap.size w (w.alloc (.cells #[.string a,.string m,.int .i64 mo,.int .i64 ev,.int .i64 su,.int .i64 mx,.slice ta tl tc,.slice ha hl hc] 26))):=H_ ((Below.refl _ _).alloc (Nat.le_refl _) _)
 have HX0:=H_ (Blk.new w [.string a,.string m,.int .i64 mo,.int .i64 ev,.int .i64 su,.int .i64 mx,.slice ta tl tc,.slice ha hl hc] 26)
 cases r
 ·go_enter Tryd.func10,Tryd.ntmps10
  go_wp2_with fail
  refine (H1.out _ HB0.out).mono ?_
  rintro e w1 ⟨rfl,hb1⟩
  have HB1:=H_ (HB0.out.trans (hb1.mono HB0.out.size))
  clear hb1
  go_wp2_with fail
  go_ret
  exact ⟨rfl,HB1.out⟩
 ·go_enter Tryd.func10,Tryd.ntmps10
  go_wp2_with fail
  refine (H1.out _ HB0.out).mono ?_
  rintro e w1 ⟨rfl,hb1⟩
  have HB1:=H_ (HB0.out.trans (hb1.mono HB0.out.size))
  have HX1:=H_ (HX0.out.below hb1)
  clear hb1
  obtain ⟨xl,xc⟩:=HX1.out
  have x0:w1.cell? ⟨w.heap.size,0,none⟩=some (.string a):=xc 0 (by simp)
  have x1:w1.cell? ⟨w.heap.size,1,none⟩=some (.string m):=xc 1 (by simp)
  have x2:w1.cell? ⟨w.heap.size,2,none⟩=some (.int .i64 mo):=xc 2 (by simp)
  have x3:w1.cell? ⟨w.heap.size,3,none⟩=some (.int .i64 ev):=xc 3 (by simp)
  have x4:w1.cell? ⟨w.heap.size,4,none⟩=some (.int .i64 su):=xc 4 (by simp)
  have x5:w1.cell? ⟨w.heap.size,5,none⟩=some (.int .i64 mx):=xc 5 (by simp)
  have x6:w1.cell? ⟨w.heap.size,6,none⟩=some (.slice ta tl tc):=xc 6 (by simp)
  have x7:w1.cell? ⟨w.heap.size,7,none⟩=some (.slice ha hl hc):=xc 7 (by simp)
  clear xc
  go_wp2_with fail
  refine (H2.out _ HB1.out).mono ?_
  rintro e w2 ⟨rfl,hb2⟩
  have HB2:=H_ (HB1.out.trans (hb2.mono HB1.out.size))
  clear hb2
  go_wp2_with fail
  go_ret
  exact ⟨rfl,HB2.out⟩
theorem spec_value (x:Wd) (g:Int) (ta:Option Addr) (tc:Nat) (ha:Option Addr) (hc:Nat) (w:World) (h1:x.a.size≤1048576) (h2:x.m.size≤1048576) (h3:x.ts.length≤1048576) (h4:∀t∈x.ts,t.size≤1048576) (h5:x.hs.length≤1048576) (hT:Tgs ta x.ts w) (hH:Hrs ha x.hs w) :
 Calls Tryd.prog 10 #[.agg (wcells x ta tc ha hc),.int .i64 g] w fun e w'=>e=.returned (.int .i64 (valueV x g))∧Below w.heap.size w w' :=
 svalue_all x.a x.m x.mo x.ev x.su x.mx ta x.ts.length tc ha x.hs.length hc g _ _ w (fun W hW=>spec_window_right x ta tc ha hc W h1 h2 h3 h4 (hT.below hW) (hH.below hW)) (fun W hW=>svalue_in x.a x.m x.mo x.ev x.su x.mx ta x.ts.length tc ha x.hs hc g W h5 (hH.below hW))
end WinR
namespace WinR
open LtR (lt)
section
variable {α:Type} (r:α→α→Bool) (f:α→α→α)
structure Ord:Prop where
 asy:∀x y,r x y=true→r y x=false
 tr:∀x y z,r x y=true→r y z=true→r x z=true
 nt:∀x y z,r x y=false→r y z=false→r x z=false
 fl:∀x y z,r x y=false→r y x=false→r (f x y) z=r x z
 fr:∀x y z,r x y=false→r y x=false→r z (f x y)=r z x
 co:∀x y,r x y=false→r y x=false→f x y=f y x
 sc:∀x y z,f (f x y) z=f x (f y z)
theorem mrg_comm (o:Ord r f):∀n,∀a b:List α,a.length+b.length≤n→mrg r f a b=mrg r f b a
 | n,[],b,_=>by rw [mrg_nil];simp [mrg]
 | n,x::xs,[],_=>by rw [mrg_nil];simp [mrg]
 | 0,x::xs,y::ys,h=>by simp at h
 | n+1,x::xs,y::ys,h=>by
  simp only [List.length_cons] at h
  rw [mrg,mrg]
  cases h1:r x y<;>cases h2:r y x
  ·simp only [Bool.false_eq_true,if_false]
   rw [o.co x y h1 h2,mrg_comm o n xs ys (by omega)]
  ·simp only [Bool.false_eq_true,if_false,if_true]
   rw [mrg_comm o n (x::xs) ys (by simp only [List.length_cons];omega)]
  ·simp only [Bool.false_eq_true,if_false,if_true]
   rw [mrg_comm o n xs (y::ys) (by simp only [List.length_cons];omega)]
  ·rw [o.asy x y h1] at h2;cases h2
theorem mrg_cons (x y:α) (xs ys:List α):mrg r f (x::xs) (y::ys)=if r x y=true then x::mrg r f xs (y::ys) else if r y x=true then y::mrg r f (x::xs) ys else f x y::mrg r f xs ys:=by rw [mrg]
theorem mrg_assoc (o:Ord r f):∀n,∀a b c:List α,a.length+b.length+c.length≤n→mrg r f (mrg r f a b) c=mrg r f a (mrg r f b c)
 | n,[],b,c,_=>by simp [mrg]
 | n,x::xs,[],c,_=>by rw [mrg_nil];simp [mrg]
 | n,x::xs,y::ys,[],_=>by rw [mrg_nil,mrg_nil]
 | 0,x::xs,y::ys,z::zs,h=>by simp at h
 | n+1,x::xs,y::ys,z::zs,h=>by
  simp only [List.length_cons] at h
  have e1:=mrg_assoc o n xs (y::ys) (z::zs) (by simp only [List.length_cons];omega)
  have e2:=mrg_assoc o n (x::xs) ys (z::zs) (by simp only [List.length_cons];omega)
  have e3:=mrg_assoc o n (x::xs) (y::ys) zs (by simp only [List.length_cons];omega)
  have e4:=mrg_assoc o n xs ys (z::zs) (by simp only [List.length_cons];omega)
  have e5:=mrg_assoc o n xs (y::ys) zs (by simp only [List.length_cons];omega)
  have e6:=mrg_assoc o n (x::xs) ys zs (by simp only [List.length_cons];omega)
  have e7:=mrg_assoc o n xs ys zs (by omega)
  have c1:=mrg_cons r f x y xs ys
  have c2:=mrg_cons r f y z ys zs
  cases h1:r x y<;>cases h2:r y x<;>cases h3:r y z<;>cases h4:r z y<;>cases h5:r x z<;>cases h6:r z x<;>
   first
   | (exfalso;first
    | (have:=o.asy x y h1;rw [h2] at this;cases this;done)
    | (have:=o.asy y z h3;rw [h4] at this;cases this;done)
    | (have:=o.asy x z h5;rw [h6] at this;cases this;done)
    | (have:=o.tr x y z h1 h3;rw [h5] at this;cases this;done)
    | (have:=o.tr z y x h4 h2;rw [h6] at this;cases this;done)
    | (have:=o.tr x z y h5 h4;rw [h1] at this;cases this;done)
    | (have:=o.tr y z x h3 h6;rw [h2] at this;cases this;done)
    | (have:=o.tr y x z h2 h5;rw [h3] at this;cases this;done)
    | (have:=o.tr z x y h6 h1;rw [h4] at this;cases this;done)
    | (have:=o.nt x y z h1 h3;rw [h5] at this;cases this;done)
    | (have:=o.nt z y x h4 h2;rw [h6] at this;cases this;done)
    | (have:=o.nt x z y h5 h4;rw [h1] at this;cases this;done)
    | (have:=o.nt y z x h3 h6;rw [h2] at this;cases this;done)
    | (have:=o.nt y x z h2 h5;rw [h3] at this;cases this;done)
    | (have:=o.nt z x y h6 h1;rw [h4] at this;cases this;done))
   | (
    simp only [h1,h2,Bool.false_eq_true,if_false,if_true] at c1
    simp only [h3,h4,Bool.false_eq_true,if_false,if_true] at c2
    rw [c1,c2]
    simp only [mrg_cons,h1,h2,h3,h4,h5,h6,o.fl x y z,o.fr x y z,o.fl y z x,o.fr y z x,o.sc,Bool.false_eq_true,if_false,if_true]
    first
    | (rw [←c1];first|rw [e3]|rw [e1]|rw [e2])
    | (rw [←c2];first|rw [e1]|rw [e3]|rw [e2])
    | rw [e1]|rw [e2]|rw [e3]|rw [e4]|rw [e5]|rw [e6]|rw [e7])
end
theorem ord_t:Ord lt fstT where
 asy x y h:=by
  cases h2:lt y x
  ·rfl
  ·have:=LtR.lt_trans h h2
   rw [LtR.lt_irrefl] at this;cases this
 tr x y z h1 h2:=LtR.lt_trans h1 h2
 nt x y z h1 h2:=by
  cases h3:lt x z
  ·rfl
  ·cases h4:lt y x
   ·have:=LtR.lt_total h1 h4
    subst this
    rw [h3] at h2;cases h2
   ·have:=LtR.lt_trans h4 h3
    rw [this] at h2;cases h2
 fl x y z _ _:=rfl
 fr x y z _ _:=rfl
 co x y h1 h2:=LtR.lt_total h1 h2
 sc x y z:=rfl
theorem ord_h:Ord hlt addH where
 asy x y h:=by unfold hlt at *;simp only [decide_eq_true_eq,decide_eq_false_iff_not] at *;omega
 tr x y z h1 h2:=by unfold hlt at *;simp only [decide_eq_true_eq] at *;omega
 nt x y z h1 h2:=by unfold hlt at *;simp only [decide_eq_false_iff_not] at *;omega
 fl x y z _ _:=rfl
 fr x y z h1 h2:=rfl
 co x y h1 h2:=by
  unfold hlt at h1 h2
  simp only [decide_eq_false_iff_not] at h1 h2
  unfold addH
  rw [show x.h=y.h by omega,Int.add_comm]
 sc x y z:=by unfold addH;rw [Int.add_assoc]
theorem jw_comm {x y:Wd} (h:sameW x y):jw x y=jw y x:=by
 obtain ⟨h1,h2,h3⟩:=h
 unfold jw
 rw [h1,h2,h3,Int.add_comm x.ev,Int.add_comm x.su,Int.max_comm x.mx,mrg_comm lt fstT ord_t _ x.ts y.ts (Nat.le_refl _),mrg_comm hlt addH ord_h _ x.hs y.hs (Nat.le_refl _)]
theorem jw_assoc (x y z:Wd):jw (jw x y) z=jw x (jw y z):=by
 show Wd.mk x.a x.m x.mo (x.ev+y.ev+z.ev) (x.su+y.su+z.su) (max (max x.mx y.mx) z.mx) (mrg lt fstT (mrg lt fstT x.ts y.ts) z.ts) (mrg hlt addH (mrg hlt addH x.hs y.hs) z.hs)=Wd.mk x.a x.m x.mo (x.ev+(y.ev+z.ev)) (x.su+(y.su+z.su)) (max x.mx (max y.mx z.mx)) (mrg lt fstT x.ts (mrg lt fstT y.ts z.ts)) (mrg hlt addH x.hs (mrg hlt addH y.hs z.hs))
 rw [Int.add_assoc,Int.add_assoc,Int.max_assoc,mrg_assoc lt fstT ord_t _ x.ts y.ts z.ts (Nat.le_refl _),mrg_assoc hlt addH ord_h _ x.hs y.hs z.hs (Nat.le_refl _)]
theorem mrg_ge {α:Type} (r:α→α→Bool) (f:α→α→α) (a b:List α):a.length≤(mrg r f a b).length∧b.length≤(mrg r f a b).length:=by
 fun_induction mrg r f a b<;>simp_all<;>omega
theorem mrg_low (a b:List H) (h:∀z∈a,0≤z.s) (h':∀z∈b,0≤z.s):(∀z∈a,∃z'∈mrg hlt addH a b,z.s≤z'.s)∧(∀z∈b,∃z'∈mrg hlt addH a b,z.s≤z'.s):=by
 fun_induction mrg hlt addH a b with
 | case1 ys=>exact ⟨fun z hz=>by simp at hz,fun z hz=>⟨z,hz,Int.le_refl _⟩⟩
 | case2 x xs=>exact ⟨fun z hz=>⟨z,hz,Int.le_refl _⟩,fun z hz=>by simp at hz⟩
 | case3 x xs y ys h1 ih =>
  obtain ⟨i1,i2⟩:=ih (fun z hz=>h z (List.mem_cons_of_mem _ hz)) h'
  refine ⟨fun z hz=>?_,fun z hz=>?_⟩
  ·rcases List.mem_cons.1 hz with rfl|hz
   ·exact ⟨z,List.mem_cons_self ..,Int.le_refl _⟩
   ·obtain ⟨z',m,e⟩:=i1 z hz
    exact ⟨z',List.mem_cons_of_mem _ m,e⟩
  ·obtain ⟨z',m,e⟩:=i2 z hz
   exact ⟨z',List.mem_cons_of_mem _ m,e⟩
 | case4 x xs y ys h1 h2 ih =>
  obtain ⟨i1,i2⟩:=ih h (fun z hz=>h' z (List.mem_cons_of_mem _ hz))
  refine ⟨fun z hz=>?_,fun z hz=>?_⟩
  ·obtain ⟨z',m,e⟩:=i1 z hz
   exact ⟨z',List.mem_cons_of_mem _ m,e⟩
  ·rcases List.mem_cons.1 hz with rfl|hz
   ·exact ⟨z,List.mem_cons_self ..,Int.le_refl _⟩
   ·obtain ⟨z',m,e⟩:=i2 z hz
    exact ⟨z',List.mem_cons_of_mem _ m,e⟩
 | case5 x xs y ys h1 h2 ih =>
  obtain ⟨i1,i2⟩:=ih (fun z hz=>h z (List.mem_cons_of_mem _ hz)) (fun z hz=>h' z (List.mem_cons_of_mem _ hz))
  have hx:=h x (List.mem_cons_self ..)
  have hy:=h' y (List.mem_cons_self ..)
  refine ⟨fun z hz=>?_,fun z hz=>?_⟩
  ·rcases List.mem_cons.1 hz with rfl|hz
   ·exact ⟨addH z y,List.mem_cons_self ..,by unfold addH;dsimp only;omega⟩
   ·obtain ⟨z',m,e⟩:=i1 z hz
    exact ⟨z',List.mem_cons_of_mem _ m,e⟩
  ·rcases List.mem_cons.1 hz with rfl|hz
   ·exact ⟨addH x z,List.mem_cons_self ..,by unfold addH;dsimp only;omega⟩
   ·obtain ⟨z',m,e⟩:=i2 z hz
    exact ⟨z',List.mem_cons_of_mem _ m,e⟩
theorem mrg_up (A B:Int) (hA:0≤A) (hB:0≤B) (a b:List H) (h:∀z∈a,z.s≤A) (h':∀z∈b,z.s≤B):∀z∈mrg hlt addH a b,z.s≤A+B:=by
 fun_induction mrg hlt addH a b with
 | case1 ys=>exact fun z hz=>by have:=h' z hz;omega
 | case2 x xs=>exact fun z hz=>by have:=h z hz;omega
 | case3 x xs y ys h1 ih =>
  intro z hz
  rcases List.mem_cons.1 hz with rfl|hz
  ·have:=h z (List.mem_cons_self ..);omega
  ·exact ih (fun z hz=>h z (List.mem_cons_of_mem _ hz)) h' z hz
 | case4 x xs y ys h1 h2 ih =>
  intro z hz
  rcases List.mem_cons.1 hz with rfl|hz
  ·have:=h' z (List.mem_cons_self ..);omega
  ·exact ih h (fun z hz=>h' z (List.mem_cons_of_mem _ hz)) z hz
 | case5 x xs y ys h1 h2 ih =>
  intro z hz
  rcases List.mem_cons.1 hz with rfl|hz
  ·have e1:=h x (List.mem_cons_self ..)
   have e2:=h' y (List.mem_cons_self ..)
   unfold addH;dsimp only;omega
  ·exact ih (fun z hz=>h z (List.mem_cons_of_mem _ hz)) (fun z hz=>h' z (List.mem_cons_of_mem _ hz)) z hz
theorem pk_le {hs:List H} {B:Int}:∀{p:Int},hs.foldl (fun p x=>grt p x.s) p≤B↔p≤B∧∀z∈hs,z.s≤B:=by
 induction hs with
 | nil=>intro p;simp
 | cons x xs ih =>
  intro p
  rw [List.foldl_cons,ih]
  unfold grt
  constructor
  ·rintro ⟨h1,h2⟩
   refine ⟨by split at h1<;>omega,fun z hz=>?_⟩
   rcases List.mem_cons.1 hz with rfl|hz
   ·split at h1<;>omega
   ·exact h2 z hz
  ·rintro ⟨h1,h2⟩
   have:=h2 x (List.mem_cons_self ..)
   exact ⟨by split<;>omega,fun z hz=>h2 z (List.mem_cons_of_mem _ hz)⟩
theorem pk_bound {hs:List H} {B:Int}:pk hs≤B↔0≤B∧∀z∈hs,z.s≤B:=pk_le
theorem pk_ge (hs:List H):0≤pk hs∧∀z∈hs,z.s≤pk hs:=pk_bound.1 (Int.le_refl _)
theorem val_join {x y:Wd} (hx:Fit x) (hy:Fit y) (mx:0≤x.mx) (my:0≤y.mx) (g:Int):valV x g≤valV (jw x y) g∧valV y g≤valV (jw x y) g∧valV (jw x y) g≤valV x g+valV y g:=by
 have sx:=hx.su
 have sy:=hy.su
 have hl:=mrg_le lt fstT x.ts y.ts
 have hg:=mrg_ge lt fstT x.ts y.ts
 obtain ⟨p1,p2⟩:=mrg_low x.hs y.hs (fun z hz=>(hx.hs z hz).1) (fun z hz=>(hy.hs z hz).1)
 have gx:=pk_ge x.hs
 have gy:=pk_ge y.hs
 have gz:=pk_ge (mrg hlt addH x.hs y.hs)
 have b1:pk x.hs≤pk (mrg hlt addH x.hs y.hs):=pk_bound.2 ⟨gz.1,fun z hz=>by obtain ⟨z',m,e⟩:=p1 z hz;have:=gz.2 z' m;omega⟩
 have b2:pk y.hs≤pk (mrg hlt addH x.hs y.hs):=pk_bound.2 ⟨gz.1,fun z hz=>by obtain ⟨z',m,e⟩:=p2 z hz;have:=gz.2 z' m;omega⟩
 have b3:pk (mrg hlt addH x.hs y.hs)≤pk x.hs+pk y.hs:=pk_bound.2 ⟨by omega,mrg_up _ _ gx.1 gy.1 x.hs y.hs gx.2 gy.2⟩
 unfold valV jw
 dsimp only
 split
 ·omega
 ·split
  ·omega
  ·split
   ·omega
   ·split<;>omega
end WinR
end Go.Proofs.YteejpnkmnmoebaaDoor
