/-
  What the program calls a right window.
  The conditions stand in what each theorem says.
-/
import Derived.Test.YtnceeaccbcfopaaGreatDoorT20
set_option maxRecDepth 100000
set_option maxHeartbeats 16000000
namespace Go.Proofs.YtnceeaccbcfopaaGreatDoor
open Go.ChangeShapes Go.WideShapes Go.ChangeAt Go.RowKit
set_option linter.unusedVariables false
namespace WinR
open RowG LtR
open CatR (Blk Blk.new)
open DateR (Laid)
theorem counted_su {ev su mx:Int} (h:countedB ev su mx=true):(1≤ev∧ev≤1000)∧(0≤su∧su≤1000000000000)∧0≤mx∧mx≤su:=by
 unfold countedB at h
 simp only [Bool.and_eq_true,decide_eq_true_eq] at h
 exact h
theorem right_in (a m:ByteArray) (mo ev su mx:Int) (ta:Option Addr) (tl tc:Nat) (ha:Option Addr) (hl hc:Nat) (b1 b2 b3 b4:Bool) (w:World)
 (h1:∀W,Calls Tryz.prog 205 #[.agg #[.string a,.string m,.int .i64 mo]] W fun e w'=>e=.returned (.bool b1)∧Below W.heap.size W w')
 (h2:∀W,Calls Tryz.prog 206 #[.agg #[.int .i64 ev,.int .i64 su,.int .i64 mx]] W fun e w'=>e=.returned (.bool b2)∧Below W.heap.size W w')
 (h3:∀W,Below w.heap.size w W→Calls Tryz.prog 207 #[.agg #[.string a,.string m,.int .i64 mo,.int .i64 ev,.int .i64 su,.int .i64 mx,.slice ta tl tc,.func (.func 212) #[] #[],.func (.func 213) #[] #[],.slice ha hl hc,.func (.func 214) #[] #[],.func (.func 215) #[] #[]]] W fun e w'=>e=.returned (.bool b3)∧Below W.heap.size W w')
 (h4:b2=true→∀W,Below w.heap.size w W→Calls Tryz.prog 208 #[.agg #[.string a,.string m,.int .i64 mo,.int .i64 ev,.int .i64 su,.int .i64 mx,.slice ta tl tc,.func (.func 212) #[] #[],.func (.func 213) #[] #[],.slice ha hl hc,.func (.func 214) #[] #[],.func (.func 215) #[] #[]]] W fun e w'=>e=.returned (.bool b4)∧Below W.heap.size W w') :
 Calls Tryz.prog 175 #[.agg #[.string a,.string m,.int .i64 mo,.int .i64 ev,.int .i64 su,.int .i64 mx,.slice ta tl tc,.func (.func 212) #[] #[],.func (.func 213) #[] #[],.slice ha hl hc,.func (.func 214) #[] #[],.func (.func 215) #[] #[]]] w fun e w'=>e=.returned (.bool (b1&&(b2&&(b3&&b4))))∧Below w.heap.size w w':=by
 have H1:=H_ h1
 have H2:=H_ h2
 have H3:=H_ h3
 have H4:=H_ h4
 clear h1 h2 h3 h4
 have HB0:Hid (Below w.heap.size w (w.alloc (.cells #[.string a,.string m,.int .i64 mo,.int .i64 ev,.int .i64 su,.int .i64 mx,.slice ta tl tc,.func (.func 212) #[] #[],.func (.func 213) #[] #[],.slice ha hl hc,.func (.func 214) #[] #[],.func (.func 215) #[] #[]] 196))):=H_ (al_ _ _)
 have HX0:=H_ (Blk.new w [.string a,.string m,.int .i64 mo,.int .i64 ev,.int .i64 su,.int .i64 mx,.slice ta tl tc,.func (.func 212) #[] #[],.func (.func 213) #[] #[],.slice ha hl hc,.func (.func 214) #[] #[],.func (.func 215) #[] #[]] 196)
 rcases four b1 b2 b3 b4 with rfl|⟨rfl,rfl⟩|⟨rfl,rfl,rfl⟩|⟨rfl,rfl,rfl,rfl⟩|⟨rfl,rfl,rfl,rfl⟩
 ·go_enter Tryz.func175,Tryz.ntmps175
  go_wp2_with fail
  refine (H1.out _).mono ?_
  rintro e w1 ⟨rfl,hb1⟩
  have HB1:=HT_ HB0 hb1
  have HX1:=H_ (HX0.out.below hb1)
  clear hb1
  go_wp2_with fail
  go_ret
  exact ⟨rfl,HB1.out⟩
 ·go_enter Tryz.func175,Tryz.ntmps175
  go_wp2_with fail
  refine (H1.out _).mono ?_
  rintro e w1 ⟨rfl,hb1⟩
  have HB1:=HT_ HB0 hb1
  have HX1:=H_ (HX0.out.below hb1)
  clear hb1
  obtain ⟨xl,xc⟩:=HX1.out
  have y0:=q_ xc 0
  have y1:=q_ xc 1
  have y2:=q_ xc 2
  have y3:=q_ xc 3
  have y4:=q_ xc 4
  have y5:=q_ xc 5
  have y6:=q_ xc 6
  have y7:=q_ xc 7
  have y8:=q_ xc 8
  have y9:=q_ xc 9
  have y10:=q_ xc 10
  have y11:=q_ xc 11
  clear xc
  go_wp2_with fail
  refine (H2.out _).mono ?_
  rintro e w2 ⟨rfl,hb2⟩
  have HB2:=HT_ HB1 hb2
  have HX2:=H_ (HX1.out.below hb2)
  clear hb2
  go_wp2_with fail
  go_ret
  exact ⟨rfl,HB2.out⟩
 ·go_enter Tryz.func175,Tryz.ntmps175
  go_wp2_with fail
  refine (H1.out _).mono ?_
  rintro e w1 ⟨rfl,hb1⟩
  have HB1:=HT_ HB0 hb1
  have HX1:=H_ (HX0.out.below hb1)
  clear hb1
  obtain ⟨xl,xc⟩:=HX1.out
  have y0:=q_ xc 0
  have y1:=q_ xc 1
  have y2:=q_ xc 2
  have y3:=q_ xc 3
  have y4:=q_ xc 4
  have y5:=q_ xc 5
  have y6:=q_ xc 6
  have y7:=q_ xc 7
  have y8:=q_ xc 8
  have y9:=q_ xc 9
  have y10:=q_ xc 10
  have y11:=q_ xc 11
  clear xc
  go_wp2_with fail
  refine (H2.out _).mono ?_
  rintro e w2 ⟨rfl,hb2⟩
  have HB2:=HT_ HB1 hb2
  have HX2:=H_ (HX1.out.below hb2)
  clear hb2
  clear y0 y1 y2 y3 y4 y5 y6 y7 y8 y9 y10 y11
  obtain ⟨xl,xc⟩:=HX2.out
  have y0:=q_ xc 0
  have y1:=q_ xc 1
  have y2:=q_ xc 2
  have y3:=q_ xc 3
  have y4:=q_ xc 4
  have y5:=q_ xc 5
  have y6:=q_ xc 6
  have y7:=q_ xc 7
  have y8:=q_ xc 8
  have y9:=q_ xc 9
  have y10:=q_ xc 10
  have y11:=q_ xc 11
  clear xc
  go_wp2_with fail
  refine (H3.out _ HB2.out).mono ?_
  rintro e w3 ⟨rfl,hb3⟩
  have HB3:=HT_ HB2 hb3
  have HX3:=H_ (HX2.out.below hb3)
  clear hb3
  go_wp2_with fail
  go_ret
  exact ⟨rfl,HB3.out⟩
 ·go_enter Tryz.func175,Tryz.ntmps175
  go_wp2_with fail
  refine (H1.out _).mono ?_
  rintro e w1 ⟨rfl,hb1⟩
  have HB1:=HT_ HB0 hb1
  have HX1:=H_ (HX0.out.below hb1)
  clear hb1
  obtain ⟨xl,xc⟩:=HX1.out
  have y0:=q_ xc 0
  have y1:=q_ xc 1
  have y2:=q_ xc 2
  have y3:=q_ xc 3
  have y4:=q_ xc 4
  have y5:=q_ xc 5
  have y6:=q_ xc 6
  have y7:=q_ xc 7
  have y8:=q_ xc 8
  have y9:=q_ xc 9
  have y10:=q_ xc 10
  have y11:=q_ xc 11
  clear xc
  go_wp2_with fail
  refine (H2.out _).mono ?_
  rintro e w2 ⟨rfl,hb2⟩
  have HB2:=HT_ HB1 hb2
  have HX2:=H_ (HX1.out.below hb2)
  clear hb2
  clear y0 y1 y2 y3 y4 y5 y6 y7 y8 y9 y10 y11
  obtain ⟨xl,xc⟩:=HX2.out
  have y0:=q_ xc 0
  have y1:=q_ xc 1
  have y2:=q_ xc 2
  have y3:=q_ xc 3
  have y4:=q_ xc 4
  have y5:=q_ xc 5
  have y6:=q_ xc 6
  have y7:=q_ xc 7
  have y8:=q_ xc 8
  have y9:=q_ xc 9
  have y10:=q_ xc 10
  have y11:=q_ xc 11
  clear xc
  go_wp2_with fail
  refine (H3.out _ HB2.out).mono ?_
  rintro e w3 ⟨rfl,hb3⟩
  have HB3:=HT_ HB2 hb3
  have HX3:=H_ (HX2.out.below hb3)
  clear hb3
  clear y0 y1 y2 y3 y4 y5 y6 y7 y8 y9 y10 y11
  obtain ⟨xl,xc⟩:=HX3.out
  have y0:=q_ xc 0
  have y1:=q_ xc 1
  have y2:=q_ xc 2
  have y3:=q_ xc 3
  have y4:=q_ xc 4
  have y5:=q_ xc 5
  have y6:=q_ xc 6
  have y7:=q_ xc 7
  have y8:=q_ xc 8
  have y9:=q_ xc 9
  have y10:=q_ xc 10
  have y11:=q_ xc 11
  clear xc
  go_wp2_with fail
  refine (H4.out (by first|rfl|trivial) _ HB3.out).mono ?_
  rintro e w4 ⟨rfl,hb4⟩
  have HB4:=HT_ HB3 hb4
  have HX4:=H_ (HX3.out.below hb4)
  clear hb4
  go_wp2_with fail
  go_ret
  exact ⟨rfl,HB4.out⟩
 ·go_enter Tryz.func175,Tryz.ntmps175
  go_wp2_with fail
  refine (H1.out _).mono ?_
  rintro e w1 ⟨rfl,hb1⟩
  have HB1:=HT_ HB0 hb1
  have HX1:=H_ (HX0.out.below hb1)
  clear hb1
  obtain ⟨xl,xc⟩:=HX1.out
  have y0:=q_ xc 0
  have y1:=q_ xc 1
  have y2:=q_ xc 2
  have y3:=q_ xc 3
  have y4:=q_ xc 4
  have y5:=q_ xc 5
  have y6:=q_ xc 6
  have y7:=q_ xc 7
  have y8:=q_ xc 8
  have y9:=q_ xc 9
  have y10:=q_ xc 10
  have y11:=q_ xc 11
  clear xc
  go_wp2_with fail
  refine (H2.out _).mono ?_
  rintro e w2 ⟨rfl,hb2⟩
  have HB2:=HT_ HB1 hb2
  have HX2:=H_ (HX1.out.below hb2)
  clear hb2
  clear y0 y1 y2 y3 y4 y5 y6 y7 y8 y9 y10 y11
  obtain ⟨xl,xc⟩:=HX2.out
  have y0:=q_ xc 0
  have y1:=q_ xc 1
  have y2:=q_ xc 2
  have y3:=q_ xc 3
  have y4:=q_ xc 4
  have y5:=q_ xc 5
  have y6:=q_ xc 6
  have y7:=q_ xc 7
  have y8:=q_ xc 8
  have y9:=q_ xc 9
  have y10:=q_ xc 10
  have y11:=q_ xc 11
  clear xc
  go_wp2_with fail
  refine (H3.out _ HB2.out).mono ?_
  rintro e w3 ⟨rfl,hb3⟩
  have HB3:=HT_ HB2 hb3
  have HX3:=H_ (HX2.out.below hb3)
  clear hb3
  clear y0 y1 y2 y3 y4 y5 y6 y7 y8 y9 y10 y11
  obtain ⟨xl,xc⟩:=HX3.out
  have y0:=q_ xc 0
  have y1:=q_ xc 1
  have y2:=q_ xc 2
  have y3:=q_ xc 3
  have y4:=q_ xc 4
  have y5:=q_ xc 5
  have y6:=q_ xc 6
  have y7:=q_ xc 7
  have y8:=q_ xc 8
  have y9:=q_ xc 9
  have y10:=q_ xc 10
  have y11:=q_ xc 11
  clear xc
  go_wp2_with fail
  refine (H4.out (by first|rfl|trivial) _ HB3.out).mono ?_
  rintro e w4 ⟨rfl,hb4⟩
  have HB4:=HT_ HB3 hb4
  have HX4:=H_ (HX3.out.below hb4)
  clear hb4
  go_wp2_with fail
  go_ret
  exact ⟨rfl,HB4.out⟩
theorem impl_right (a m:ByteArray) (mo ev su mx:Int) (ts:List ByteArray) (hs:List H) (ta:Option Addr) (tc:Nat) (ha:Option Addr) (hc:Nat) (w:World) (h1:a.size≤1048576) (h2:m.size≤1048576) (h3:ts.length≤1048576) (h4:∀t∈ts,t.size≤1048576) (h5:hs.length≤1048576) (hL:Laid w) (hT:Tgs ta ts w) (hH:Hrs ha hs w) :
 Calls Tryz.prog 175 #[.agg #[.string a,.string m,.int .i64 mo,.int .i64 ev,.int .i64 su,.int .i64 mx,.slice ta ts.length tc,.func (.func 212) #[] #[],.func (.func 213) #[] #[],.slice ha hs.length hc,.func (.func 214) #[] #[],.func (.func 215) #[] #[]]] w fun e w'=>e=.returned (.bool (wB ⟨a,m,mo,ev,su,mx,ts,hs⟩))∧Below w.heap.size w w' :=
 right_in a m mo ev su mx ta ts.length tc ha hs.length hc _ _ _ _ w (fun W=>impl_named a m mo W h1 h2) (fun W=>impl_counted ev su mx W) (fun W hW=>impl_tagged a m mo ev su mx ts ta tc _ W h3 h4 (hT.below hW)) (fun hc W hW=>impl_timed a m mo ev su mx hs _ ha _ W h5 (counted_su hc).2.1 (hL.below hW) (hH.below hW))
theorem impl_window_right (x:Wd) (ta:Option Addr) (tc:Nat) (ha:Option Addr) (hc:Nat) (w:World) (h1:x.a.size≤1048576) (h2:x.m.size≤1048576) (h3:x.ts.length≤1048576) (h4:∀t∈x.ts,t.size≤1048576) (h5:x.hs.length≤1048576) (hL:Laid w) (hT:Tgs ta x.ts w) (hH:Hrs ha x.hs w) :
 Calls Tryz.prog 129 #[.agg (wcells x ta tc ha hc)] w fun e w'=>e=.returned (.bool (wB x))∧Below w.heap.size w w':=by
 obtain ⟨a,m,mo,ev,su,mx,ts,hs⟩:=x
 dsimp only at *
 have H1:=H_ (fun W=>impl_usage a m mo ev su mx ta ts.length tc ha hs.length hc W)
 have H2:=H_ (fun W (hW:Below w.heap.size w W)=>impl_right a m mo ev su mx ts hs ta tc ha hc W h1 h2 h3 h4 h5 (hL.below hW) (hT.below hW) (hH.below hW))
 unfold wcells
 dsimp only
 generalize wB ⟨a,m,mo,ev,su,mx,ts,hs⟩=R at *
 generalize ts.length=tl at *
 generalize hs.length=hl at *
 clear hL hT hH h4
 have HB0:Hid (Below w.heap.size w (w.alloc (.cells #[.string a,.string m,.int .i64 mo,.int .i64 ev,.int .i64 su,.int .i64 mx,.slice ta tl tc,.slice ha hl hc] 106))):=H_ (al_ _ _)
 go_enter Tryz.func129,Tryz.ntmps129
 go_wp2_with fail
 refine (H1.out _).mono ?_
 rintro e w1 ⟨rfl,hb1⟩
 have HB1:=HT_ HB0 hb1
 clear hb1
 go_wp2_with fail
 refine (H2.out _ HB1.out).mono ?_
 rintro e w2 ⟨rfl,hb2⟩
 have HB2:=HT_ HB1 hb2
 clear hb2
 go_wp2_with fail
 go_ret
 exact ⟨rfl,HB2.out⟩
end WinR
end Go.Proofs.YtnceeaccbcfopaaGreatDoor
