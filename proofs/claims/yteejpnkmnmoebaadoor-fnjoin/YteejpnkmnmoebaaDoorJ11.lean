/-
  What the program calls a right window. The conditions: texts of at most 1048576 bytes, lists of at most 1048576; the program's table stands in its variable.
  The zero window. No condition.
  Two right windows joined, the model's way, by one function of two windows. The conditions: the lists are short enough, and the lists that are given are laid as slices are.
  A window and an event added: the model's way. The conditions: what the callees ask for.
  A minute's hour: both sides hand back the same number. No condition.
  Small parts of the window of one event. No condition.
-/
import Derived.Test.YteejpnkmnmoebaaDoorJ10
namespace Go.Proofs.YteejpnkmnmoebaaDoor
open Go.ChangeShapes Go.WideShapes Go.ChangeAt Go.RowKit
set_option linter.unusedVariables false
namespace WinR
open RowG LtR
open CatR (Blk Blk.new)
open DateR (Laid)
theorem counted_su {ev su mx:Int} (h:countedB ev su mx=true):(1≤ev∧ev≤1000)∧(0≤su∧su≤1000000000000)∧0≤mx∧mx≤su:=by
 unfold countedB at h
 simp only [Bool.and_eq_true,decide_eq_true_eq] at h
 exact h
set_option maxRecDepth 100000 in
set_option maxHeartbeats 8000000 in
theorem right_in (a m:ByteArray) (mo ev su mx:Int) (ta:Option Addr) (tl tc:Nat) (ha:Option Addr) (hl hc:Nat) (b1 b2 b3 b4:Bool) (w:World)
 (h1:∀W,Calls Tryd.prog 37 #[.agg #[.string a,.string m,.int .i64 mo]] W fun e w'=>e=.returned (.bool b1)∧Below W.heap.size W w')
 (h2:∀W,Calls Tryd.prog 38 #[.agg #[.int .i64 ev,.int .i64 su,.int .i64 mx]] W fun e w'=>e=.returned (.bool b2)∧Below W.heap.size W w')
 (h3:∀W,Below w.heap.size w W→Calls Tryd.prog 39 #[.agg #[.string a,.string m,.int .i64 mo,.int .i64 ev,.int .i64 su,.int .i64 mx,.slice ta tl tc,.func (.func 60) #[] #[],.func (.func 61) #[] #[],.slice ha hl hc,.func (.func 62) #[] #[],.func (.func 63) #[] #[]]] W fun e w'=>e=.returned (.bool b3)∧Below W.heap.size W w')
 (h4:b2=true→∀W,Below w.heap.size w W→Calls Tryd.prog 40 #[.agg #[.string a,.string m,.int .i64 mo,.int .i64 ev,.int .i64 su,.int .i64 mx,.slice ta tl tc,.func (.func 60) #[] #[],.func (.func 61) #[] #[],.slice ha hl hc,.func (.func 62) #[] #[],.func (.func 63) #[] #[]]] W fun e w'=>e=.returned (.bool b4)∧Below W.heap.size W w') :
 Calls Tryd.prog 16 #[.agg #[.string a,.string m,.int .i64 mo,.int .i64 ev,.int .i64 su,.int .i64 mx,.slice ta tl tc,.func (.func 60) #[] #[],.func (.func 61) #[] #[],.slice ha hl hc,.func (.func 62) #[] #[],.func (.func 63) #[] #[]]] w fun e w'=>e=.returned (.bool (b1&&(b2&&(b3&&b4))))∧Below w.heap.size w w':=by
 have H1:=H_ h1
 have H2:=H_ h2
 have H3:=H_ h3
 have H4:=H_ h4
 clear h1 h2 h3 h4
 have HB0:Hid (Below w.heap.size w (w.alloc (.cells #[.string a,.string m,.int .i64 mo,.int .i64 ev,.int .i64 su,.int .i64 mx,.slice ta tl tc,.func (.func 60) #[] #[],.func (.func 61) #[] #[],.slice ha hl hc,.func (.func 62) #[] #[],.func (.func 63) #[] #[]] 54))):=H_ ((Below.refl _ _).alloc (Nat.le_refl _) _)
 have HX0:=H_ (Blk.new w [.string a,.string m,.int .i64 mo,.int .i64 ev,.int .i64 su,.int .i64 mx,.slice ta tl tc,.func (.func 60) #[] #[],.func (.func 61) #[] #[],.slice ha hl hc,.func (.func 62) #[] #[],.func (.func 63) #[] #[]] 54)
 rcases four b1 b2 b3 b4 with rfl|⟨rfl,rfl⟩|⟨rfl,rfl,rfl⟩|⟨rfl,rfl,rfl,rfl⟩|⟨rfl,rfl,rfl,rfl⟩
 ·go_enter Tryd.func16,Tryd.ntmps16
  go_wp2_with fail
  refine (H1.out _).mono ?_
  rintro e w1 ⟨rfl,hb1⟩
  have HB1:=H_ (HB0.out.trans (hb1.mono HB0.out.size))
  have HX1:=H_ (HX0.out.below hb1)
  clear hb1
  go_wp2_with fail
  go_ret
  exact ⟨rfl,HB1.out⟩
 ·go_enter Tryd.func16,Tryd.ntmps16
  go_wp2_with fail
  refine (H1.out _).mono ?_
  rintro e w1 ⟨rfl,hb1⟩
  have HB1:=H_ (HB0.out.trans (hb1.mono HB0.out.size))
  have HX1:=H_ (HX0.out.below hb1)
  clear hb1
  obtain ⟨xl,xc⟩:=HX1.out
  have y0:w1.cell? ⟨w.heap.size,0,none⟩=some (.string a):=xc 0 (by simp)
  have y1:w1.cell? ⟨w.heap.size,1,none⟩=some (.string m):=xc 1 (by simp)
  have y2:w1.cell? ⟨w.heap.size,2,none⟩=some (.int .i64 mo):=xc 2 (by simp)
  have y3:w1.cell? ⟨w.heap.size,3,none⟩=some (.int .i64 ev):=xc 3 (by simp)
  have y4:w1.cell? ⟨w.heap.size,4,none⟩=some (.int .i64 su):=xc 4 (by simp)
  have y5:w1.cell? ⟨w.heap.size,5,none⟩=some (.int .i64 mx):=xc 5 (by simp)
  have y6:w1.cell? ⟨w.heap.size,6,none⟩=some (.slice ta tl tc):=xc 6 (by simp)
  have y7:w1.cell? ⟨w.heap.size,7,none⟩=some (.func (.func 60) #[] #[]):=xc 7 (by simp)
  have y8:w1.cell? ⟨w.heap.size,8,none⟩=some (.func (.func 61) #[] #[]):=xc 8 (by simp)
  have y9:w1.cell? ⟨w.heap.size,9,none⟩=some (.slice ha hl hc):=xc 9 (by simp)
  have y10:w1.cell? ⟨w.heap.size,10,none⟩=some (.func (.func 62) #[] #[]):=xc 10 (by simp)
  have y11:w1.cell? ⟨w.heap.size,11,none⟩=some (.func (.func 63) #[] #[]):=xc 11 (by simp)
  clear xc
  go_wp2_with fail
  refine (H2.out _).mono ?_
  rintro e w2 ⟨rfl,hb2⟩
  have HB2:=H_ (HB1.out.trans (hb2.mono HB1.out.size))
  have HX2:=H_ (HX1.out.below hb2)
  clear hb2
  go_wp2_with fail
  go_ret
  exact ⟨rfl,HB2.out⟩
 ·go_enter Tryd.func16,Tryd.ntmps16
  go_wp2_with fail
  refine (H1.out _).mono ?_
  rintro e w1 ⟨rfl,hb1⟩
  have HB1:=H_ (HB0.out.trans (hb1.mono HB0.out.size))
  have HX1:=H_ (HX0.out.below hb1)
  clear hb1
  obtain ⟨xl,xc⟩:=HX1.out
  have y0:w1.cell? ⟨w.heap.size,0,none⟩=some (.string a):=xc 0 (by simp)
  have y1:w1.cell? ⟨w.heap.size,1,none⟩=some (.string m):=xc 1 (by simp)
  have y2:w1.cell? ⟨w.heap.size,2,none⟩=some (.int .i64 mo):=xc 2 (by simp)
  have y3:w1.cell? ⟨w.heap.size,3,none⟩=some (.int .i64 ev):=xc 3 (by simp)
  have y4:w1.cell? ⟨w.heap.size,4,none⟩=some (.int .i64 su):=xc 4 (by simp)
  have y5:w1.cell? ⟨w.heap.size,5,none⟩=some (.int .i64 mx):=xc 5 (by simp)
  have y6:w1.cell? ⟨w.heap.size,6,none⟩=some (.slice ta tl tc):=xc 6 (by simp)
  have y7:w1.cell? ⟨w.heap.size,7,none⟩=some (.func (.func 60) #[] #[]):=xc 7 (by simp)
  have y8:w1.cell? ⟨w.heap.size,8,none⟩=some (.func (.func 61) #[] #[]):=xc 8 (by simp)
  have y9:w1.cell? ⟨w.heap.size,9,none⟩=some (.slice ha hl hc):=xc 9 (by simp)
  have y10:w1.cell? ⟨w.heap.size,10,none⟩=some (.func (.func 62) #[] #[]):=xc 10 (by simp)
  have y11:w1.cell? ⟨w.heap.size,11,none⟩=some (.func (.func 63) #[] #[]):=xc 11 (by simp)
  clear xc
  go_wp2_with fail
  refine (H2.out _).mono ?_
  rintro e w2 ⟨rfl,hb2⟩
  have HB2:=H_ (HB1.out.trans (hb2.mono HB1.out.size))
  have HX2:=H_ (HX1.out.below hb2)
  clear hb2
  clear y0 y1 y2 y3 y4 y5 y6 y7 y8 y9 y10 y11
  obtain ⟨xl,xc⟩:=HX2.out
  have y0:w2.cell? ⟨w.heap.size,0,none⟩=some (.string a):=xc 0 (by simp)
  have y1:w2.cell? ⟨w.heap.size,1,none⟩=some (.string m):=xc 1 (by simp)
  have y2:w2.cell? ⟨w.heap.size,2,none⟩=some (.int .i64 mo):=xc 2 (by simp)
  have y3:w2.cell? ⟨w.heap.size,3,none⟩=some (.int .i64 ev):=xc 3 (by simp)
  have y4:w2.cell? ⟨w.heap.size,4,none⟩=some (.int .i64 su):=xc 4 (by simp)
  have y5:w2.cell? ⟨w.heap.size,5,none⟩=some (.int .i64 mx):=xc 5 (by simp)
  have y6:w2.cell? ⟨w.heap.size,6,none⟩=some (.slice ta tl tc):=xc 6 (by simp)
  have y7:w2.cell? ⟨w.heap.size,7,none⟩=some (.func (.func 60) #[] #[]):=xc 7 (by simp)
  have y8:w2.cell? ⟨w.heap.size,8,none⟩=some (.func (.func 61) #[] #[]):=xc 8 (by simp)
  have y9:w2.cell? ⟨w.heap.size,9,none⟩=some (.slice ha hl hc):=xc 9 (by simp)
  have y10:w2.cell? ⟨w.heap.size,10,none⟩=some (.func (.func 62) #[] #[]):=xc 10 (by simp)
  have y11:w2.cell? ⟨w.heap.size,11,none⟩=some (.func (.func 63) #[] #[]):=xc 11 (by simp)
  clear xc
  go_wp2_with fail
  refine (H3.out _ HB2.out).mono ?_
  rintro e w3 ⟨rfl,hb3⟩
  have HB3:=H_ (HB2.out.trans (hb3.mono HB2.out.size))
  have HX3:=H_ (HX2.out.below hb3)
  clear hb3
  go_wp2_with fail
  go_ret
  exact ⟨rfl,HB3.out⟩
 ·go_enter Tryd.func16,Tryd.ntmps16
  go_wp2_with fail
  refine (H1.out _).mono ?_
  rintro e w1 ⟨rfl,hb1⟩
  have HB1:=H_ (HB0.out.trans (hb1.mono HB0.out.size))
  have HX1:=H_ (HX0.out.below hb1)
  clear hb1
  obtain ⟨xl,xc⟩:=HX1.out
  have y0:w1.cell? ⟨w.heap.size,0,none⟩=some (.string a):=xc 0 (by simp)
  have y1:w1.cell? ⟨w.heap.size,1,none⟩=some (.string m):=xc 1 (by simp)
  have y2:w1.cell? ⟨w.heap.size,2,none⟩=some (.int .i64 mo):=xc 2 (by simp)
  have y3:w1.cell? ⟨w.heap.size,3,none⟩=some (.int .i64 ev):=xc 3 (by simp)
  have y4:w1.cell? ⟨w.heap.size,4,none⟩=some (.int .i64 su):=xc 4 (by simp)
  have y5:w1.cell? ⟨w.heap.size,5,none⟩=some (.int .i64 mx):=xc 5 (by simp)
  have y6:w1.cell? ⟨w.heap.size,6,none⟩=some (.slice ta tl tc):=xc 6 (by simp)
  have y7:w1.cell? ⟨w.heap.size,7,none⟩=some (.func (.func 60) #[] #[]):=xc 7 (by simp)
  have y8:w1.cell? ⟨w.heap.size,8,none⟩=some (.func (.func 61) #[] #[]):=xc 8 (by simp)
  have y9:w1.cell? ⟨w.heap.size,9,none⟩=some (.slice ha hl hc):=xc 9 (by simp)
  have y10:w1.cell? ⟨w.heap.size,10,none⟩=some (.func (.func 62) #[] #[]):=xc 10 (by simp)
  have y11:w1.cell? ⟨w.heap.size,11,none⟩=some (.func (.func 63) #[] #[]):=xc 11 (by simp)
  clear xc
  go_wp2_with fail
  refine (H2.out _).mono ?_
  rintro e w2 ⟨rfl,hb2⟩
  have HB2:=H_ (HB1.out.trans (hb2.mono HB1.out.size))
  have HX2:=H_ (HX1.out.below hb2)
  clear hb2
  clear y0 y1 y2 y3 y4 y5 y6 y7 y8 y9 y10 y11
  obtain ⟨xl,xc⟩:=HX2.out
  have y0:w2.cell? ⟨w.heap.size,0,none⟩=some (.string a):=xc 0 (by simp)
  have y1:w2.cell? ⟨w.heap.size,1,none⟩=some (.string m):=xc 1 (by simp)
  have y2:w2.cell? ⟨w.heap.size,2,none⟩=some (.int .i64 mo):=xc 2 (by simp)
  have y3:w2.cell? ⟨w.heap.size,3,none⟩=some (.int .i64 ev):=xc 3 (by simp)
  have y4:w2.cell? ⟨w.heap.size,4,none⟩=some (.int .i64 su):=xc 4 (by simp)
  have y5:w2.cell? ⟨w.heap.size,5,none⟩=some (.int .i64 mx):=xc 5 (by simp)
  have y6:w2.cell? ⟨w.heap.size,6,none⟩=some (.slice ta tl tc):=xc 6 (by simp)
  have y7:w2.cell? ⟨w.heap.size,7,none⟩=some (.func (.func 60) #[] #[]):=xc 7 (by simp)
  have y8:w2.cell? ⟨w.heap.size,8,none⟩=some (.func (.func 61) #[] #[]):=xc 8 (by simp)
  have y9:w2.cell? ⟨w.heap.size,9,none⟩=some (.slice ha hl hc):=xc 9 (by simp)
  have y10:w2.cell? ⟨w.heap.size,10,none⟩=some (.func (.func 62) #[] #[]):=xc 10 (by simp)
  have y11:w2.cell? ⟨w.heap.size,11,none⟩=some (.func (.func 63) #[] #[]):=xc 11 (by simp)
  clear xc
  go_wp2_with fail
  refine (H3.out _ HB2.out).mono ?_
  rintro e w3 ⟨rfl,hb3⟩
  have HB3:=H_ (HB2.out.trans (hb3.mono HB2.out.size))
  have HX3:=H_ (HX2.out.below hb3)
  clear hb3
  clear y0 y1 y2 y3 y4 y5 y6 y7 y8 y9 y10 y11
  obtain ⟨xl,xc⟩:=HX3.out
  have y0:w3.cell? ⟨w.heap.size,0,none⟩=some (.string a):=xc 0 (by simp)
  have y1:w3.cell? ⟨w.heap.size,1,none⟩=some (.string m):=xc 1 (by simp)
  have y2:w3.cell? ⟨w.heap.size,2,none⟩=some (.int .i64 mo):=xc 2 (by simp)
  have y3:w3.cell? ⟨w.heap.size,3,none⟩=some (.int .i64 ev):=xc 3 (by simp)
  have y4:w3.cell? ⟨w.heap.size,4,none⟩=some (.int .i64 su):=xc 4 (by simp)
  have y5:w3.cell? ⟨w.heap.size,5,none⟩=some (.int .i64 mx):=xc 5 (by simp)
  have y6:w3.cell? ⟨w.heap.size,6,none⟩=some (.slice ta tl tc):=xc 6 (by simp)
  have y7:w3.cell? ⟨w.heap.size,7,none⟩=some (.func (.func 60) #[] #[]):=xc 7 (by simp)
  have y8:w3.cell? ⟨w.heap.size,8,none⟩=some (.func (.func 61) #[] #[]):=xc 8 (by simp)
  have y9:w3.cell? ⟨w.heap.size,9,none⟩=some (.slice ha hl hc):=xc 9 (by simp)
  have y10:w3.cell? ⟨w.heap.size,10,none⟩=some (.func (.func 62) #[] #[]):=xc 10 (by simp)
  have y11:w3.cell? ⟨w.heap.size,11,none⟩=some (.func (.func 63) #[] #[]):=xc 11 (by simp)
  clear xc
  go_wp2_with fail
  refine (H4.out (by first|rfl|trivial) _ HB3.out).mono ?_
  rintro e w4 ⟨rfl,hb4⟩
  have HB4:=H_ (HB3.out.trans (hb4.mono HB3.out.size))
  have HX4:=H_ (HX3.out.below hb4)
  clear hb4
  go_wp2_with fail
  go_ret
  exact ⟨rfl,HB4.out⟩
 ·go_enter Tryd.func16,Tryd.ntmps16
  go_wp2_with fail
  refine (H1.out _).mono ?_
  rintro e w1 ⟨rfl,hb1⟩
  have HB1:=H_ (HB0.out.trans (hb1.mono HB0.out.size))
  have HX1:=H_ (HX0.out.below hb1)
  clear hb1
  obtain ⟨xl,xc⟩:=HX1.out
  have y0:w1.cell? ⟨w.heap.size,0,none⟩=some (.string a):=xc 0 (by simp)
  have y1:w1.cell? ⟨w.heap.size,1,none⟩=some (.string m):=xc 1 (by simp)
  have y2:w1.cell? ⟨w.heap.size,2,none⟩=some (.int .i64 mo):=xc 2 (by simp)
  have y3:w1.cell? ⟨w.heap.size,3,none⟩=some (.int .i64 ev):=xc 3 (by simp)
  have y4:w1.cell? ⟨w.heap.size,4,none⟩=some (.int .i64 su):=xc 4 (by simp)
  have y5:w1.cell? ⟨w.heap.size,5,none⟩=some (.int .i64 mx):=xc 5 (by simp)
  have y6:w1.cell? ⟨w.heap.size,6,none⟩=some (.slice ta tl tc):=xc 6 (by simp)
  have y7:w1.cell? ⟨w.heap.size,7,none⟩=some (.func (.func 60) #[] #[]):=xc 7 (by simp)
  have y8:w1.cell? ⟨w.heap.size,8,none⟩=some (.func (.func 61) #[] #[]):=xc 8 (by simp)
  have y9:w1.cell? ⟨w.heap.size,9,none⟩=some (.slice ha hl hc):=xc 9 (by simp)
  have y10:w1.cell? ⟨w.heap.size,10,none⟩=some (.func (.func 62) #[] #[]):=xc 10 (by simp)
  have y11:w1.cell? ⟨w.heap.size,11,none⟩=some (.func (.func 63) #[] #[]):=xc 11 (by simp)
  clear xc
  go_wp2_with fail
  refine (H2.out _).mono ?_
  rintro e w2 ⟨rfl,hb2⟩
  have HB2:=H_ (HB1.out.trans (hb2.mono HB1.out.size))
  have HX2:=H_ (HX1.out.below hb2)
  clear hb2
  clear y0 y1 y2 y3 y4 y5 y6 y7 y8 y9 y10 y11
  obtain ⟨xl,xc⟩:=HX2.out
  have y0:w2.cell? ⟨w.heap.size,0,none⟩=some (.string a):=xc 0 (by simp)
  have y1:w2.cell? ⟨w.heap.size,1,none⟩=some (.string m):=xc 1 (by simp)
  have y2:w2.cell? ⟨w.heap.size,2,none⟩=some (.int .i64 mo):=xc 2 (by simp)
  have y3:w2.cell? ⟨w.heap.size,3,none⟩=some (.int .i64 ev):=xc 3 (by simp)
  have y4:w2.cell? ⟨w.heap.size,4,none⟩=some (.int .i64 su):=xc 4 (by simp)
  have y5:w2.cell? ⟨w.heap.size,5,none⟩=some (.int .i64 mx):=xc 5 (by simp)
  have y6:w2.cell? ⟨w.heap.size,6,none⟩=some (.slice ta tl tc):=xc 6 (by simp)
  have y7:w2.cell? ⟨w.heap.size,7,none⟩=some (.func (.func 60) #[] #[]):=xc 7 (by simp)
  have y8:w2.cell? ⟨w.heap.size,8,none⟩=some (.func (.func 61) #[] #[]):=xc 8 (by simp)
  have y9:w2.cell? ⟨w.heap.size,9,none⟩=some (.slice ha hl hc):=xc 9 (by simp)
  have y10:w2.cell? ⟨w.heap.size,10,none⟩=some (.func (.func 62) #[] #[]):=xc 10 (by simp)
  have y11:w2.cell? ⟨w.heap.size,11,none⟩=some (.func (.func 63) #[] #[]):=xc 11 (by simp)
  clear xc
  go_wp2_with fail
  refine (H3.out _ HB2.out).mono ?_
  rintro e w3 ⟨rfl,hb3⟩
  have HB3:=H_ (HB2.out.trans (hb3.mono HB2.out.size))
  have HX3:=H_ (HX2.out.below hb3)
  clear hb3
  clear y0 y1 y2 y3 y4 y5 y6 y7 y8 y9 y10 y11
  obtain ⟨xl,xc⟩:=HX3.out
  have y0:w3.cell? ⟨w.heap.size,0,none⟩=some (.string a):=xc 0 (by simp)
  have y1:w3.cell? ⟨w.heap.size,1,none⟩=some (.string m):=xc 1 (by simp)
  have y2:w3.cell? ⟨w.heap.size,2,none⟩=some (.int .i64 mo):=xc 2 (by simp)
  have y3:w3.cell? ⟨w.heap.size,3,none⟩=some (.int .i64 ev):=xc 3 (by simp)
  have y4:w3.cell? ⟨w.heap.size,4,none⟩=some (.int .i64 su):=xc 4 (by simp)
  have y5:w3.cell? ⟨w.heap.size,5,none⟩=some (.int .i64 mx):=xc 5 (by simp)
  have y6:w3.cell? ⟨w.heap.size,6,none⟩=some (.slice ta tl tc):=xc 6 (by simp)
  have y7:w3.cell? ⟨w.heap.size,7,none⟩=some (.func (.func 60) #[] #[]):=xc 7 (by simp)
  have y8:w3.cell? ⟨w.heap.size,8,none⟩=some (.func (.func 61) #[] #[]):=xc 8 (by simp)
  have y9:w3.cell? ⟨w.heap.size,9,none⟩=some (.slice ha hl hc):=xc 9 (by simp)
  have y10:w3.cell? ⟨w.heap.size,10,none⟩=some (.func (.func 62) #[] #[]):=xc 10 (by simp)
  have y11:w3.cell? ⟨w.heap.size,11,none⟩=some (.func (.func 63) #[] #[]):=xc 11 (by simp)
  clear xc
  go_wp2_with fail
  refine (H4.out (by first|rfl|trivial) _ HB3.out).mono ?_
  rintro e w4 ⟨rfl,hb4⟩
  have HB4:=H_ (HB3.out.trans (hb4.mono HB3.out.size))
  have HX4:=H_ (HX3.out.below hb4)
  clear hb4
  go_wp2_with fail
  go_ret
  exact ⟨rfl,HB4.out⟩
theorem impl_right (a m:ByteArray) (mo ev su mx:Int) (ts:List ByteArray) (hs:List H) (ta:Option Addr) (tc:Nat) (ha:Option Addr) (hc:Nat) (w:World) (h1:a.size≤1048576) (h2:m.size≤1048576) (h3:ts.length≤1048576) (h4:∀t∈ts,t.size≤1048576) (h5:hs.length≤1048576) (hL:Laid w) (hT:Tgs ta ts w) (hH:Hrs ha hs w) :
 Calls Tryd.prog 16 #[.agg #[.string a,.string m,.int .i64 mo,.int .i64 ev,.int .i64 su,.int .i64 mx,.slice ta ts.length tc,.func (.func 60) #[] #[],.func (.func 61) #[] #[],.slice ha hs.length hc,.func (.func 62) #[] #[],.func (.func 63) #[] #[]]] w fun e w'=>e=.returned (.bool (wB ⟨a,m,mo,ev,su,mx,ts,hs⟩))∧Below w.heap.size w w' :=
 right_in a m mo ev su mx ta ts.length tc ha hs.length hc _ _ _ _ w (fun W=>impl_named a m mo W h1 h2) (fun W=>impl_counted ev su mx W) (fun W hW=>impl_tagged a m mo ev su mx ts ta tc _ W h3 h4 (hT.below hW)) (fun hc W hW=>impl_timed a m mo ev su mx hs _ ha _ W h5 (counted_su hc).2.1 (hL.below hW) (hH.below hW))
theorem impl_window_right (x:Wd) (ta:Option Addr) (tc:Nat) (ha:Option Addr) (hc:Nat) (w:World) (h1:x.a.size≤1048576) (h2:x.m.size≤1048576) (h3:x.ts.length≤1048576) (h4:∀t∈x.ts,t.size≤1048576) (h5:x.hs.length≤1048576) (hL:Laid w) (hT:Tgs ta x.ts w) (hH:Hrs ha x.hs w) :
 Calls Tryd.prog 11 #[.agg (wcells x ta tc ha hc)] w fun e w'=>e=.returned (.bool (wB x))∧Below w.heap.size w w':=by
 obtain ⟨a,m,mo,ev,su,mx,ts,hs⟩:=x
 dsimp only at *
 have H1:=H_ (fun W=>impl_usage a m mo ev su mx ta ts.length tc ha hs.length hc W)
 have H2:=H_ (fun W (hW:Below w.heap.size w W)=>impl_right a m mo ev su mx ts hs ta tc ha hc W h1 h2 h3 h4 h5 (hL.below hW) (hT.below hW) (hH.below hW))
 unfold wcells
 dsimp only
 generalize wB ⟨a,m,mo,ev,su,mx,ts,hs⟩=R at *
 generalize ts.length=tl at *
 generalize hs.length=hl at *
 clear hL hT hH h4
 have HB0:Hid (Below w.heap.size w (w.alloc (.cells #[.string a,.string m,.int .i64 mo,.int .i64 ev,.int .i64 su,.int .i64 mx,.slice ta tl tc,.slice ha hl hc] 26))):=H_ ((Below.refl _ _).alloc (Nat.le_refl _) _)
 go_enter Tryd.func11,Tryd.ntmps11
 go_wp2_with fail
 refine (H1.out _).mono ?_
 rintro e w1 ⟨rfl,hb1⟩
 have HB1:=H_ (HB0.out.trans (hb1.mono HB0.out.size))
 clear hb1
 go_wp2_with fail
 refine (H2.out _ HB1.out).mono ?_
 rintro e w2 ⟨rfl,hb2⟩
 have HB2:=H_ (HB1.out.trans (hb2.mono HB1.out.size))
 clear hb2
 go_wp2_with fail
 go_ret
 exact ⟨rfl,HB2.out⟩
end WinR
end Go.Proofs.YteejpnkmnmoebaaDoor
namespace Go.Proofs.YteejpnkmnmoebaaDoor
namespace WinR
def wz:Wd:=⟨⟨#[]⟩,⟨#[]⟩,0,0,0,0,[],[]⟩
end WinR
end Go.Proofs.YteejpnkmnmoebaaDoor
namespace Go.Proofs.YteejpnkmnmoebaaDoor
open Go.ChangeShapes Go.WideShapes Go.ChangeAt Go.RowKit
set_option linter.unusedVariables false
namespace WinR
open RowG (MadeG Rws)
open LtR (lt)
open DateR (Laid)
open CatR (Blk Blk.new)
section
variable {α:Type} (r:α→α→Bool) (f:α→α→α)
theorem mrg_le (a b:List α):(mrg r f a b).length≤a.length+b.length:=by
 fun_induction mrg r f a b<;>simp_all<;>omega
theorem mrg_all (p:α→Prop) (hf:∀x y,p x→p y→p (f x y)) (a b:List α) (ha:∀z∈a,p z) (hb:∀z∈b,p z):∀z∈mrg r f a b,p z:=by
 fun_induction mrg r f a b<;>simp_all
theorem rs_of (z:α):∀xs:List α,RiseTo r z xs xs.length→Rs r xs
 | [],_=>trivial
 | [_],_=>trivial
 | x::y::l,h=>⟨by simpa using h 1 (by simp) (by omega),rs_of z (y::l) (fun i hi h0=>by
  obtain ⟨k,rfl⟩:∃k,i=k+1:=⟨i-1,by omega⟩
  have:=h (k+1+1) (by simpa using hi) (by omega)
  simpa using this)⟩
end
theorem lt_te (x y z:ByteArray) (h1:lt x y=false) (h2:lt y x=false) (h3:lt y z=true):lt (fstT x y) z=true:=by
 have:=LtR.lt_total h1 h2
 subst this
 exact h3
theorem hlt_tr (x y z:H) (h1:hlt x y=true) (h2:hlt y z=true):hlt x z=true:=by
 unfold hlt at *
 simp only [decide_eq_true_eq] at *
 omega
theorem hlt_te (x y z:H) (h1:hlt x y=false) (h2:hlt y x=false) (h3:hlt y z=true):hlt (addH x y) z=true:=by
 unfold hlt addH at *
 simp only [decide_eq_true_eq,decide_eq_false_iff_not] at *
 omega
def jw (x y:Wd):Wd:=⟨x.a,x.m,x.mo,x.ev+y.ev,x.su+y.su,max x.mx y.mx,mrg lt fstT x.ts y.ts,mrg hlt addH x.hs y.hs⟩
def sameW (x y:Wd):Prop:=x.a=y.a∧x.m=y.m∧x.mo=y.mo
structure Fit (x:Wd):Prop where
 ev:0≤x.ev∧x.ev≤1000
 su:0≤x.su∧x.su≤1000000000000
 tt:x.ts.length≤12
 rt:Rs LtR.lt x.ts
 l1:1≤x.hs.length
 lh:x.hs.length≤12
 rh:Rs hlt x.hs
 hs:∀z∈x.hs,0≤z.s∧z.s≤1000000000000
theorem fit {x:Wd} (h:wB x=true):Fit x:=by
 unfold wB at h
 simp only [Bool.and_eq_true] at h
 obtain ⟨_,hc,ht,hh⟩:=h
 obtain ⟨h1,h2,_⟩:=counted_su hc
 unfold tagsB at ht
 unfold timedB hoursB at hh
 simp only [Bool.and_eq_true,decide_eq_true_eq] at ht hh
 refine ⟨by omega,h2,ht.1,rs_of _ tz _ (rise_iff.1 ht.2.1),hh.1.1,hh.1.2,rs_of _ H.zero _ (rise_iff.1 hh.2.1),fun z hz=>?_⟩
 have:=List.all_eq_true.1 hh.2.2.1 z hz
 unfold hOk at this
 simp only [Bool.and_eq_true,decide_eq_true_eq] at this
 omega
theorem lt2_is {x y:Wd} (h:Rs lt y.ts):lt2 x.ts y.ts y.ts.length=(jw x y).ts:=by
 unfold lt2 jw
 rw [List.take_length]
 exact (mrg_fold lt fstT (fun a b c h1 h2=>LtR.lt_trans h1 h2) lt_te _ _ h).symm
theorem lh2_is {x y:Wd} (h:Rs hlt y.hs):lh2 x.hs y.hs y.hs.length=(jw x y).hs:=by
 unfold lh2 jw
 rw [List.take_length]
 exact (mrg_fold hlt addH hlt_tr hlt_te _ _ h).symm
structure Two (x y:Wd):Prop where
 sx:x.Small
 sy:y.Small
 tt:x.ts.length+y.ts.length≤1048576
 lh:x.hs.length+y.hs.length≤1048576
theorem Two.jlt {x y:Wd} (h:Two x y):(jw x y).ts.length≤1048576:=by
 have:=mrg_le lt fstT x.ts y.ts
 have:=h.tt
 show (mrg lt fstT x.ts y.ts).length≤_
 omega
theorem Two.jlh {x y:Wd} (h:Two x y):(jw x y).hs.length≤1048576:=by
 have:=mrg_le hlt addH x.hs y.hs
 have:=h.lh
 show (mrg hlt addH x.hs y.hs).length≤_
 omega
theorem Two.jts {x y:Wd} (h:Two x y):∀t∈(jw x y).ts,t.size≤1048576 :=
 mrg_all lt fstT (fun t=>t.size≤1048576) (fun x y h1 _=>h1) x.ts y.ts h.sx.2.2.2.1 h.sy.2.2.2.1
theorem spec_l07join (x y:Wd) (ta1:Option Addr) (tc1 hb hf hc1:Nat) (ta2:Option Addr) (tc2:Nat) (ha2:Option Addr) (hc2:Nat) (w:World) (h2:Two x y) (hx:wB x=true) (hy:wB y=true) (hT1:Tgs ta1 x.ts w) (hH1:Hrs (some ⟨hb,hf,none⟩) x.hs w) (hT2:Tgs ta2 y.ts w) (hH2:Hrs ha2 y.hs w) :
 Calls Tryd.prog 22 #[.agg (wcells x ta1 tc1 (some ⟨hb,hf,none⟩) hc1),.agg (wcells y ta2 tc2 ha2 hc2)] w fun e w'=>SPost w.heap.size (sameW x y) (wB (jw x y)) x.a x.m x.mo (x.ev+y.ev) (x.su+y.su) (max x.mx y.mx) (jw x y).ts (jw x y).hs e w'∧Below w.heap.size w w':=by
 have fx:=fit hx
 have fy:=fit hy
 have e1:IntKind.i64.wrap (x.ev+y.ev)=x.ev+y.ev:=IntWalk.i64_in _ ⟨by have:=fx.ev;have:=fy.ev;omega,by have:=fx.ev;have:=fy.ev;omega⟩
 have e2:IntKind.i64.wrap (x.su+y.su)=x.su+y.su:=IntWalk.i64_in _ ⟨by have:=fx.su;have:=fy.su;omega,by have:=fx.su;have:=fy.su;omega⟩
 have f1:wrap64 (x.ev+y.ev)=x.ev+y.ev:=by first|exact wrap64_in (by have:=fx.ev;have:=fy.ev;omega) (by have:=fx.ev;have:=fy.ev;omega)|(unfold wrap64;have:=fx.ev;have:=fy.ev;omega)
 have f2:wrap64 (x.su+y.su)=x.su+y.su:=by first|exact wrap64_in (by have:=fx.su;have:=fy.su;omega) (by have:=fx.su;have:=fy.su;omega)|(unfold wrap64;have:=fx.su;have:=fy.su;omega)
 have eT:=lt2_is (x:=x) fy.rt
 have eH:=lh2_is (x:=x) fy.rh
 have h:=sjoin_in (x.ev+y.ev) (x.su+y.su) (max x.mx y.mx) x.a x.m x.mo x.ev x.su x.mx ta1 x.ts.length tc1 hb hf x.hs.length hc1 y.a y.m y.mo y.ev y.su y.mx ta2 y.ts.length tc2 ha2 y.hs.length hc2 x.ts y.ts x.hs y.hs w rfl rfl rfl rfl
  (by have:=fx.tt;omega) (by have:=fx.lh;omega) f1 e1 f2 e2 rfl hT1 hH1 hT2 hH2 (by have:=fx.tt;have:=fy.tt;omega) (by have:=fx.lh;have:=fy.lh;omega) fx.hs fy.hs fy.lh fx.l1 (wB (jw x y))
  (fun _ ta tc ha hc W hT hH=>by
   rw [eT] at hT ⊢
   rw [eH] at hH ⊢
   exact spec_window_right (jw x y) ta tc ha hc W h2.sx.1 h2.sx.2.1 h2.jlt h2.jts hT hH)
 rw [eT,eH] at h
 exact h
end WinR
namespace WinR
open RowG (MadeG Rws)
open EvtR (Pt)
open CatR (Blk Blk.new)
open DateR (Laid)
def AX (w:World) (a1 m1:ByteArray) (mo1 ev1 su1 mx1:Int) (ta1:Option Addr) (tl1 tc1:Nat) (ha1:Option Addr) (hl1 hc1:Nat) (i2 a2 m2:ByteArray) (n2 k2:Int) (t2:ByteArray) (W:World):Prop:=Below w.heap.size w W∧w.heap.size+1+1<W.heap.size∧W.cell? ⟨w.heap.size,0,none⟩=some (.string a1)∧W.cell? ⟨w.heap.size,1,none⟩=some (.string m1)∧W.cell? ⟨w.heap.size,2,none⟩=some (.int .i64 mo1)∧W.cell? ⟨w.heap.size,3,none⟩=some (.int .i64 ev1)∧W.cell? ⟨w.heap.size,4,none⟩=some (.int .i64 su1)∧W.cell? ⟨w.heap.size,5,none⟩=some (.int .i64 mx1)∧W.cell? ⟨w.heap.size,6,none⟩=some (.slice ta1 tl1 tc1)∧W.cell? ⟨w.heap.size,7,none⟩=some (.slice ha1 hl1 hc1)∧W.cell? ⟨w.heap.size+1,0,none⟩=some (.string i2)∧W.cell? ⟨w.heap.size+1,1,none⟩=some (.string a2)∧W.cell? ⟨w.heap.size+1,2,none⟩=some (.string m2)∧W.cell? ⟨w.heap.size+1,3,none⟩=some (.int .i64 n2)∧W.cell? ⟨w.heap.size+1,4,none⟩=some (.int .i64 k2)∧W.cell? ⟨w.heap.size+1,5,none⟩=some (.string t2)
theorem AX.below {w:World} {a1 m1:ByteArray} {mo1 ev1 su1 mx1:Int} {ta1:Option Addr} {tl1 tc1:Nat} {ha1:Option Addr} {hl1 hc1:Nat} {i2 a2 m2:ByteArray} {n2 k2:Int} {t2:ByteArray} {W W':World} (h:AX w a1 m1 mo1 ev1 su1 mx1 ta1 tl1 tc1 ha1 hl1 hc1 i2 a2 m2 n2 k2 t2 W) (hb:Below W.heap.size W W'):AX w a1 m1 mo1 ev1 su1 mx1 ta1 tl1 tc1 ha1 hl1 hc1 i2 a2 m2 n2 k2 t2 W':=by
 obtain ⟨h0,h1,c0,c1,c2,c3,c4,c5,c6,c7,d0,d1,d2,d3,d4,d5⟩:=h
 have c:=fun o=>hb.cell (p:=⟨w.heap.size,o,none⟩) (by show w.heap.size<_;omega)
 have d:=fun o=>hb.cell (p:=⟨w.heap.size+1,o,none⟩) (by show w.heap.size+1<_;omega)
 have:=hb.size
 exact ⟨h0.trans (hb.mono h0.size),by omega,(c 0).trans c0,(c 1).trans c1,(c 2).trans c2,(c 3).trans c3,(c 4).trans c4,(c 5).trans c5,(c 6).trans c6,(c 7).trans c7,(d 0).trans d0,(d 1).trans d1,(d 2).trans d2,(d 3).trans d3,(d 4).trans d4,(d 5).trans d5⟩
theorem AX.grown {w:World} {a1 m1:ByteArray} {mo1 ev1 su1 mx1:Int} {ta1:Option Addr} {tl1 tc1:Nat} {ha1:Option Addr} {hl1 hc1:Nat} {i2 a2 m2:ByteArray} {n2 k2:Int} {t2:ByteArray} {W W':World} (h:AX w a1 m1 mo1 ev1 su1 mx1 ta1 tl1 tc1 ha1 hl1 hc1 i2 a2 m2 n2 k2 t2 W) (hg:W.grownBy W' (some (w.heap.size+1+1))):AX w a1 m1 mo1 ev1 su1 mx1 ta1 tl1 tc1 ha1 hl1 hc1 i2 a2 m2 n2 k2 t2 W':=by
 obtain ⟨h0,h1,c0,c1,c2,c3,c4,c5,c6,c7,d0,d1,d2,d3,d4,d5⟩:=h
 have c:=fun o=>World.cell?_of_block (a:=⟨w.heap.size,o,none⟩) (hg.block w.heap.size (by omega) (by simp;omega))
 have d:=fun o=>World.cell?_of_block (a:=⟨w.heap.size+1,o,none⟩) (hg.block (w.heap.size+1) (by omega) (by simp))
 have:=hg.size
 exact ⟨h0.grown hg h0.size (fun k e=>by simp only [Option.some.injEq] at e;omega),by omega,(c 0).trans c0,(c 1).trans c1,(c 2).trans c2,(c 3).trans c3,(c 4).trans c4,(c 5).trans c5,(c 6).trans c6,(c 7).trans c7,(d 0).trans d0,(d 1).trans d1,(d 2).trans d2,(d 3).trans d3,(d 4).trans d4,(d 5).trans d5⟩
set_option maxRecDepth 100000 in
set_option maxHeartbeats 16000000 in
theorem sadd_in (P:Value→Nat→World→Prop) (Y:Value→World→Prop) (r1 r2:Bool) (a1 m1:ByteArray) (mo1 ev1 su1 mx1:Int) (ta1:Option Addr) (tl1 tc1:Nat) (ha1:Option Addr) (hl1 hc1:Nat) (i2 a2 m2:ByteArray) (n2 k2:Int) (t2:ByteArray) (w:World)
 (hKZ:∀v base W W',P v base W→W.grownBy W' (some (w.heap.size+1+1))→w.heap.size+1+1<base→P v base W')
 (hr1:∀W,Below w.heap.size w W→Calls Tryd.prog 12 #[.agg #[.string a1,.string m1,.int .i64 mo1,.int .i64 ev1,.int .i64 su1,.int .i64 mx1,.slice ta1 tl1 tc1,.slice ha1 hl1 hc1]] W fun e w'=>e=.returned (.bool r1)∧Below W.heap.size W w')
 (hr2:∀W,Below w.heap.size w W→Calls Tryd.prog 56 #[.agg #[.string i2,.string a2,.string m2,.int .i64 n2,.int .i64 k2,.string t2]] W fun e w'=>e=.returned (.bool r2)∧Below W.heap.size W w')
 (ho:r2=true→∀W,Below w.heap.size w W→Calls Tryd.prog 57 #[.agg #[.string i2,.string a2,.string m2,.int .i64 n2,.int .i64 k2,.string t2]] W fun e w'=>∃v,e=.returned v∧Y v w'∧Below W.heap.size W w')
 (hj:r1=true→r2=true→∀v W,Below w.heap.size w W→Y v W→Calls Tryd.prog 22 #[.agg #[.string a1,.string m1,.int .i64 mo1,.int .i64 ev1,.int .i64 su1,.int .i64 mx1,.slice ta1 tl1 tc1,.slice ha1 hl1 hc1],v] W fun e w'=>∃A M mo ev su mx ta tl tc ha hl hc cd,e=.returned (.agg #[.string A,.string M,.int .i64 mo,.int .i64 ev,.int .i64 su,.int .i64 mx,.slice ta tl tc,.slice ha hl hc,.int .i64 cd])∧P (.agg #[.string A,.string M,.int .i64 mo,.int .i64 ev,.int .i64 su,.int .i64 mx,.slice ta tl tc,.slice ha hl hc,.int .i64 cd]) W.heap.size w'∧Below W.heap.size W w') :
 Calls Tryd.prog 32 #[.agg #[.string a1,.string m1,.int .i64 mo1,.int .i64 ev1,.int .i64 su1,.int .i64 mx1,.slice ta1 tl1 tc1,.slice ha1 hl1 hc1],.agg #[.string i2,.string a2,.string m2,.int .i64 n2,.int .i64 k2,.string t2]] w fun e w'=>∃v,e=.returned v∧(((r1&&r2)=false∧v=.agg #[.string ⟨#[]⟩,.string ⟨#[]⟩,.int .i64 0,.int .i64 0,.int .i64 0,.int .i64 0,.slice none 0 0,.slice none 0 0,.int .i64 1])∨((r1&&r2)=true∧∃base,w.heap.size≤base∧P v base w'))∧Below w.heap.size w w':=by
 have HKZ:=H_ hKZ
 have HR1:=H_ hr1
 have HR2:=H_ hr2
 have HO:=H_ ho
 have HJ:=H_ hj
 have HIL:=H_ sill
 clear hKZ hr1 hr2 ho hj
 obtain ⟨W0,hW0⟩:∃W0,W0=(((w.alloc (.cells #[.string a1,.string m1,.int .i64 mo1,.int .i64 ev1,.int .i64 su1,.int .i64 mx1,.slice ta1 tl1 tc1,.slice ha1 hl1 hc1] 26)).alloc (.cells #[.string i2,.string a2,.string m2,.int .i64 n2,.int .i64 k2,.string t2] 76)).alloc (.cells #[.string ⟨#[]⟩,.string ⟨#[]⟩,.int .i64 0,.int .i64 0,.int .i64 0,.int .i64 0,.slice none 0 0,.slice none 0 0,.int .i64 0] 30)):=⟨_,rfl⟩
 have HB0:Hid (Below w.heap.size w W0):=H_ (by rw [hW0];exact (((Below.refl _ _).alloc (by simp;try omega) _).alloc (by simp;try omega) _).alloc (by simp;try omega) _)
 have HA0:Hid (Blk w.heap.size [.string a1,.string m1,.int .i64 mo1,.int .i64 ev1,.int .i64 su1,.int .i64 mx1,.slice ta1 tl1 tc1,.slice ha1 hl1 hc1] W0):=H_ (by
  rw [hW0]
  exact ((Blk.new w [.string a1,.string m1,.int .i64 mo1,.int .i64 ev1,.int .i64 su1,.int .i64 mx1,.slice ta1 tl1 tc1,.slice ha1 hl1 hc1] 26).below ((Below.refl _ _).alloc (Nat.le_refl _) _)).below ((Below.refl _ _).alloc (Nat.le_refl _) _))
 have HC0:Hid (Blk (w.heap.size+1) [.string i2,.string a2,.string m2,.int .i64 n2,.int .i64 k2,.string t2] W0):=H_ (by
  have:=(Blk.new (w.alloc (.cells #[.string a1,.string m1,.int .i64 mo1,.int .i64 ev1,.int .i64 su1,.int .i64 mx1,.slice ta1 tl1 tc1,.slice ha1 hl1 hc1] 26)) [.string i2,.string a2,.string m2,.int .i64 n2,.int .i64 k2,.string t2] 76).below ((Below.refl _ _).alloc (Nat.le_refl _) (.cells #[.string ⟨#[]⟩,.string ⟨#[]⟩,.int .i64 0,.int .i64 0,.int .i64 0,.int .i64 0,.slice none 0 0,.slice none 0 0,.int .i64 0] 30))
  rw [hW0]
  simp only [World.size_alloc] at this
  exact this)
 have HP0:Hid (Pt (w.heap.size+1+1) 9 W0):=H_ (by
  have:=StR.pt_new ((w.alloc (.cells #[.string a1,.string m1,.int .i64 mo1,.int .i64 ev1,.int .i64 su1,.int .i64 mx1,.slice ta1 tl1 tc1,.slice ha1 hl1 hc1] 26)).alloc (.cells #[.string i2,.string a2,.string m2,.int .i64 n2,.int .i64 k2,.string t2] 76)) [.string ⟨#[]⟩,.string ⟨#[]⟩,.int .i64 0,.int .i64 0,.int .i64 0,.int .i64 0,.slice none 0 0,.slice none 0 0,.int .i64 0] 30
  rw [hW0]
  simp only [World.size_alloc] at this
  exact this)
 have HW:=H_ hW0
 clear hW0
 go_enter Tryd.func32,Tryd.ntmps32
 have p0:W0.cell? ⟨w.heap.size,0,none⟩=some (.string a1):=HA0.out.2 0 (by simp)
 have p1:W0.cell? ⟨w.heap.size,1,none⟩=some (.string m1):=HA0.out.2 1 (by simp)
 have p2:W0.cell? ⟨w.heap.size,2,none⟩=some (.int .i64 mo1):=HA0.out.2 2 (by simp)
 have p3:W0.cell? ⟨w.heap.size,3,none⟩=some (.int .i64 ev1):=HA0.out.2 3 (by simp)
 have p4:W0.cell? ⟨w.heap.size,4,none⟩=some (.int .i64 su1):=HA0.out.2 4 (by simp)
 have p5:W0.cell? ⟨w.heap.size,5,none⟩=some (.int .i64 mx1):=HA0.out.2 5 (by simp)
 have p6:W0.cell? ⟨w.heap.size,6,none⟩=some (.slice ta1 tl1 tc1):=HA0.out.2 6 (by simp)
 have p7:W0.cell? ⟨w.heap.size,7,none⟩=some (.slice ha1 hl1 hc1):=HA0.out.2 7 (by simp)
 have pl:=HA0.out.1
 go_wp2_with fail
 rw [←HW.out]
 refine (HR1.out _ HB0.out).mono ?_
 rintro e w1 ⟨rfl,hb1⟩
 have HB1:=H_ (HB0.out.trans (hb1.mono HB0.out.size))
 have HA1:=H_ (HA0.out.below hb1)
 have HC1:=H_ (HC0.out.below hb1)
 have HP1:=H_ (HP0.out.below hb1)
 clear hb1 HB0 HA0 HC0 HP0
 clear p0 p1 p2 p3 p4 p5 p6 p7 pl
 cases r1
 ·go_wp2_with fail
  refine (HIL.out 1 _).mono ?_
  rintro e w6 ⟨rfl,hb6⟩
  have HB6:=H_ (HB1.out.trans (hb6.mono HB1.out.size))
  have HP6:=H_ (HP1.out.below hb6)
  clear hb6
  have hp9:=HP6.out
  have hl9:=hp9.lt
  obtain ⟨ov0,r0⟩:=hp9.has 0 (by omega)
  have f0:=hp9.free 0 (by omega)
  obtain ⟨ov1,r1⟩:=hp9.has 1 (by omega)
  have f1:=hp9.free 1 (by omega)
  obtain ⟨ov2,r2⟩:=hp9.has 2 (by omega)
  have f2:=hp9.free 2 (by omega)
  obtain ⟨ov3,r3⟩:=hp9.has 3 (by omega)
  have f3:=hp9.free 3 (by omega)
  obtain ⟨ov4,r4⟩:=hp9.has 4 (by omega)
  have f4:=hp9.free 4 (by omega)
  obtain ⟨ov5,r5⟩:=hp9.has 5 (by omega)
  have f5:=hp9.free 5 (by omega)
  obtain ⟨ov6,r6⟩:=hp9.has 6 (by omega)
  have f6:=hp9.free 6 (by omega)
  obtain ⟨ov7,r7⟩:=hp9.has 7 (by omega)
  have f7:=hp9.free 7 (by omega)
  obtain ⟨ov8,r8⟩:=hp9.has 8 (by omega)
  have f8:=hp9.free 8 (by omega)
  have hgf:=StR.stL_grown (w.heap.size+1+1) [.string ⟨#[]⟩,.string ⟨#[]⟩,.int .i64 0,.int .i64 0,.int .i64 0,.int .i64 0,.slice none 0 0,.slice none 0 0,.int .i64 1] 0 w6
  have HBF:=H_ (HB6.out.grown hgf HB6.out.size (fun k e=>by simp only [Option.some.injEq] at e;omega))
  simp only [StR.stL,Nat.zero_add,Nat.reduceAdd] at HBF
  clear hgf hp9
  go_wp2_with fail
  refine bodyPost_ret (v:=.agg #[.string ⟨#[]⟩,.string ⟨#[]⟩,.int .i64 0,.int .i64 0,.int .i64 0,.int .i64 0,.slice none 0 0,.slice none 0 0,.int .i64 1]) (by simp [results,Tryd.results32,go_sem,r0,r1,r2,r3,r4,r5,r6,r7,r8]) rfl ⟨_,rfl,.inl ⟨rfl,rfl⟩,HBF.out⟩
 have p0:w1.cell? ⟨w.heap.size+1,0,none⟩=some (.string i2):=HC1.out.2 0 (by simp)
 have p1:w1.cell? ⟨w.heap.size+1,1,none⟩=some (.string a2):=HC1.out.2 1 (by simp)
 have p2:w1.cell? ⟨w.heap.size+1,2,none⟩=some (.string m2):=HC1.out.2 2 (by simp)
 have p3:w1.cell? ⟨w.heap.size+1,3,none⟩=some (.int .i64 n2):=HC1.out.2 3 (by simp)
 have p4:w1.cell? ⟨w.heap.size+1,4,none⟩=some (.int .i64 k2):=HC1.out.2 4 (by simp)
 have p5:w1.cell? ⟨w.heap.size+1,5,none⟩=some (.string t2):=HC1.out.2 5 (by simp)
 have pl:=HC1.out.1
 go_wp2_with fail
 refine (HR2.out _ HB1.out).mono ?_
 rintro e w2 ⟨rfl,hb2⟩
 have HB2:=H_ (HB1.out.trans (hb2.mono HB1.out.size))
 have HA2:=H_ (HA1.out.below hb2)
 have HC2:=H_ (HC1.out.below hb2)
 have HP2:=H_ (HP1.out.below hb2)
 clear hb2 HB1 HA1 HC1 HP1
 clear p0 p1 p2 p3 p4 p5 pl
 cases r2
 ·go_wp2_with fail
  refine (HIL.out 1 _).mono ?_
  rintro e w6 ⟨rfl,hb6⟩
  have HB6:=H_ (HB2.out.trans (hb6.mono HB2.out.size))
  have HP6:=H_ (HP2.out.below hb6)
  clear hb6
  have hp9:=HP6.out
  have hl9:=hp9.lt
  obtain ⟨ov0,r0⟩:=hp9.has 0 (by omega)
  have f0:=hp9.free 0 (by omega)
  obtain ⟨ov1,r1⟩:=hp9.has 1 (by omega)
  have f1:=hp9.free 1 (by omega)
  obtain ⟨ov2,r2⟩:=hp9.has 2 (by omega)
  have f2:=hp9.free 2 (by omega)
  obtain ⟨ov3,r3⟩:=hp9.has 3 (by omega)
  have f3:=hp9.free 3 (by omega)
  obtain ⟨ov4,r4⟩:=hp9.has 4 (by omega)
  have f4:=hp9.free 4 (by omega)
  obtain ⟨ov5,r5⟩:=hp9.has 5 (by omega)
  have f5:=hp9.free 5 (by omega)
  obtain ⟨ov6,r6⟩:=hp9.has 6 (by omega)
  have f6:=hp9.free 6 (by omega)
  obtain ⟨ov7,r7⟩:=hp9.has 7 (by omega)
  have f7:=hp9.free 7 (by omega)
  obtain ⟨ov8,r8⟩:=hp9.has 8 (by omega)
  have f8:=hp9.free 8 (by omega)
  have hgf:=StR.stL_grown (w.heap.size+1+1) [.string ⟨#[]⟩,.string ⟨#[]⟩,.int .i64 0,.int .i64 0,.int .i64 0,.int .i64 0,.slice none 0 0,.slice none 0 0,.int .i64 1] 0 w6
  have HBF:=H_ (HB6.out.grown hgf HB6.out.size (fun k e=>by simp only [Option.some.injEq] at e;omega))
  simp only [StR.stL,Nat.zero_add,Nat.reduceAdd] at HBF
  clear hgf hp9
  go_wp2_with fail
  refine bodyPost_ret (v:=.agg #[.string ⟨#[]⟩,.string ⟨#[]⟩,.int .i64 0,.int .i64 0,.int .i64 0,.int .i64 0,.slice none 0 0,.slice none 0 0,.int .i64 1]) (by simp [results,Tryd.results32,go_sem,r0,r1,r2,r3,r4,r5,r6,r7,r8]) rfl ⟨_,rfl,.inl ⟨rfl,rfl⟩,HBF.out⟩
 have HX1:=H_ (show AX w a1 m1 mo1 ev1 su1 mx1 ta1 tl1 tc1 ha1 hl1 hc1 i2 a2 m2 n2 k2 t2 w2 from ⟨HB2.out,HP2.out.lt,HA2.out.2 0 (by simp),HA2.out.2 1 (by simp),HA2.out.2 2 (by simp),HA2.out.2 3 (by simp),HA2.out.2 4 (by simp),HA2.out.2 5 (by simp),HA2.out.2 6 (by simp),HA2.out.2 7 (by simp),HC2.out.2 0 (by simp),HC2.out.2 1 (by simp),HC2.out.2 2 (by simp),HC2.out.2 3 (by simp),HC2.out.2 4 (by simp),HC2.out.2 5 (by simp)⟩)
 have HP1:=HP2
 clear HA2 HC2 HP2 HB2 HIL HR1 HR2 HW
 replace HO:=H_ (HO.out (by trivial))
 replace HJ:=H_ (HJ.out (by trivial) (by trivial))
 go_wp2_with fail
 obtain ⟨W1,hW1⟩:∃W1,W1=w2:=⟨_,rfl⟩
 subst hW1
 have HX2:Hid (AX w a1 m1 mo1 ev1 su1 mx1 ta1 tl1 tc1 ha1 hl1 hc1 i2 a2 m2 n2 k2 t2 W1.drew):=H_ (@AX.below w a1 m1 mo1 ev1 su1 mx1 ta1 tl1 tc1 ha1 hl1 hc1 i2 a2 m2 n2 k2 t2 _ _ HX1.out (Below.refl _ _).drew)
 have HP2:Hid (Pt (w.heap.size+1+1) 9 W1.drew):=H_ (HP1.out.below (Below.refl _ _).drew)
 clear HX1 HP1
 refine wp_region_held_drew (S:=(fun W=>Below w.heap.size w W∧w.heap.size+1+1<W.heap.size∧W.cell? ⟨w.heap.size,0,none⟩=some (.string a1)∧W.cell? ⟨w.heap.size,1,none⟩=some (.string m1)∧W.cell? ⟨w.heap.size,2,none⟩=some (.int .i64 mo1)∧W.cell? ⟨w.heap.size,3,none⟩=some (.int .i64 ev1)∧W.cell? ⟨w.heap.size,4,none⟩=some (.int .i64 su1)∧W.cell? ⟨w.heap.size,5,none⟩=some (.int .i64 mx1)∧W.cell? ⟨w.heap.size,6,none⟩=some (.slice ta1 tl1 tc1)∧W.cell? ⟨w.heap.size,7,none⟩=some (.slice ha1 hl1 hc1)∧W.cell? ⟨w.heap.size+1,0,none⟩=some (.string i2)∧W.cell? ⟨w.heap.size+1,1,none⟩=some (.string a2)∧W.cell? ⟨w.heap.size+1,2,none⟩=some (.string m2)∧W.cell? ⟨w.heap.size+1,3,none⟩=some (.int .i64 n2)∧W.cell? ⟨w.heap.size+1,4,none⟩=some (.int .i64 k2)∧W.cell? ⟨w.heap.size+1,5,none⟩=some (.string t2))) (by kernel_rfl) HX2.out (fun hHeld=>?_)
 generalize W1.drew=kd at *
 refine tk 0 (⟨some 14,.load 26 (.tmp 2),26,"l07_window.go:109",#[],none⟩) ?_
 refine tk 1 (⟨some 15,.load 76 (.tmp 3),76,"l07_window.go:109",#[],none⟩) ?_
 refine rd 2 (⟨some 16,.call {callee:=Callee.value (.func 57),args:=#[.tmp 15],argTypes:=#[76]},26,"l07_window.go:109",#[⟨1,.data⟩],none⟩) (fun K hK=>?_)
 go_simp
 go_at_call 57
 refine (HO.out _ HX2.out.1).mono ?_
 rintro e q1 ⟨v2,rfl,hy1,hq1⟩
 try go_wp2_with fail
 have hx1:=@AX.below w a1 m1 mo1 ev1 su1 mx1 ta1 tl1 tc1 ha1 hl1 hc1 i2 a2 m2 n2 k2 t2 _ _ HX2.out hq1
 have hp1:=HP2.out.below hq1
 refine hK.out _ _ hx1 (fun _=>?_)
 clear hK K
 try simp only [Act.put,SL]
 refine rd 3 (⟨some 17,.call {callee:=Callee.value (.func 22),args:=#[.tmp 14,.tmp 16],argTypes:=#[26,26]},30,"l07_window.go:109",#[⟨0,.data⟩,⟨2,.data⟩,⟨2,.chain⟩],none⟩) (fun K hK=>?_)
 go_simp
 go_at_call 22
 refine (HJ.out _ _ hx1.1 hy1).mono ?_
 rintro e q2 ⟨A,M,mo,ev,su,mx,ta,tl,tc,ha,hl,hc,cd,rfl,hz2,hq2⟩
 try go_wp2_with fail
 have hx2:=@AX.below w a1 m1 mo1 ev1 su1 mx1 ta1 tl1 tc1 ha1 hl1 hc1 i2 a2 m2 n2 k2 t2 _ _ hx1 hq2
 have hp2:=hp1.below hq2
 have hs1:w.heap.size+1+1<q1.heap.size:=hp1.lt
 refine hK.out _ _ hx2 (fun _=>?_)
 clear hK K
 try simp only [Act.put,SL]
 refine rd 4 (⟨none,.store 30 (.tmp 4) (.tmp 17),0,"l07_window.go:109",#[⟨3,.data⟩,⟨3,.chain⟩,⟨0,.phase⟩,⟨1,.phase⟩,⟨2,.phase⟩,⟨3,.phase⟩],none⟩) (fun K hK=>?_)
 have zl:=hp2.lt
 obtain ⟨e_0,y_0⟩:=hp2.has 0 (by omega)
 have z_0:=hp2.free 0 (by omega)
 obtain ⟨e_1,y_1⟩:=hp2.has 1 (by omega)
 have z_1:=hp2.free 1 (by omega)
 obtain ⟨e_2,y_2⟩:=hp2.has 2 (by omega)
 have z_2:=hp2.free 2 (by omega)
 obtain ⟨e_3,y_3⟩:=hp2.has 3 (by omega)
 have z_3:=hp2.free 3 (by omega)
 obtain ⟨e_4,y_4⟩:=hp2.has 4 (by omega)
 have z_4:=hp2.free 4 (by omega)
 obtain ⟨e_5,y_5⟩:=hp2.has 5 (by omega)
 have z_5:=hp2.free 5 (by omega)
 obtain ⟨e_6,y_6⟩:=hp2.has 6 (by omega)
 have z_6:=hp2.free 6 (by omega)
 obtain ⟨e_7,y_7⟩:=hp2.has 7 (by omega)
 have z_7:=hp2.free 7 (by omega)
 obtain ⟨e_8,y_8⟩:=hp2.has 8 (by omega)
 have z_8:=hp2.free 8 (by omega)
 go_simp
 try go_wp2_with fail
 have hg3:=StR.stL_grown (w.heap.size+1+1) [.string A,.string M,.int .i64 mo,.int .i64 ev,.int .i64 su,.int .i64 mx,.slice ta tl tc,.slice ha hl hc,.int .i64 cd] 0 q2
 have hb3:=StR.stL_blk (vs:=[.string A,.string M,.int .i64 mo,.int .i64 ev,.int .i64 su,.int .i64 mx,.slice ta tl tc,.slice ha hl hc,.int .i64 cd]) (W:=q2) hp2 (by simp)
 have hx3:=@AX.grown w a1 m1 mo1 ev1 su1 mx1 ta1 tl1 tc1 ha1 hl1 hc1 i2 a2 m2 n2 k2 t2 _ _ hx2 hg3
 have hz3:=HKZ.out _ _ _ _ hz2 hg3 hs1
 simp only [StR.stL,Nat.zero_add,Nat.reduceAdd] at hx3 hb3 hz3
 refine hK.out _ _ hx3 (fun _=>?_)
 clear hK K
 try simp only [Act.put,SL]
 generalize (((((((((q2.setCell ⟨w.heap.size+1+1,0,none⟩ (.string A)).setCell ⟨w.heap.size+1+1,1,none⟩ (.string M)).setCell ⟨w.heap.size+1+1,2,none⟩ (.int .i64 mo)).setCell ⟨w.heap.size+1+1,3,none⟩ (.int .i64 ev)).setCell ⟨w.heap.size+1+1,4,none⟩ (.int .i64 su)).setCell ⟨w.heap.size+1+1,5,none⟩ (.int .i64 mx)).setCell ⟨w.heap.size+1+1,6,none⟩ (.slice ta tl tc)).setCell ⟨w.heap.size+1+1,7,none⟩ (.slice ha hl hc)).setCell ⟨w.heap.size+1+1,8,none⟩ (.int .i64 cd))=k9 at *
 refine wpAnyH_done (by kernel_rfl) ?_ _
 have HBF:=H_ hx3.1
 have HZ3:=H_ hz3
 have HSQ:Hid (w.heap.size≤q1.heap.size):=H_ hx1.1.size
 have r0:k9.cell? ⟨w.heap.size+1+1,0,none⟩=some (.string A):=hb3.2 0 (by simp)
 have r1:k9.cell? ⟨w.heap.size+1+1,1,none⟩=some (.string M):=hb3.2 1 (by simp)
 have r2:k9.cell? ⟨w.heap.size+1+1,2,none⟩=some (.int .i64 mo):=hb3.2 2 (by simp)
 have r3:k9.cell? ⟨w.heap.size+1+1,3,none⟩=some (.int .i64 ev):=hb3.2 3 (by simp)
 have r4:k9.cell? ⟨w.heap.size+1+1,4,none⟩=some (.int .i64 su):=hb3.2 4 (by simp)
 have r5:k9.cell? ⟨w.heap.size+1+1,5,none⟩=some (.int .i64 mx):=hb3.2 5 (by simp)
 have r6:k9.cell? ⟨w.heap.size+1+1,6,none⟩=some (.slice ta tl tc):=hb3.2 6 (by simp)
 have r7:k9.cell? ⟨w.heap.size+1+1,7,none⟩=some (.slice ha hl hc):=hb3.2 7 (by simp)
 have r8:k9.cell? ⟨w.heap.size+1+1,8,none⟩=some (.int .i64 cd):=hb3.2 8 (by simp)
 have rl:=hb3.1
 clear hx1 hx2 hx3 hp1 hp2 hq1 hq2 hy1 hz2 hz3 hg3 hb3 zl y_0 z_0 y_1 z_1 y_2 z_2 y_3 z_3 y_4 z_4 y_5 z_5 y_6 z_6 y_7 z_7 y_8 z_8
 go_wp2_with fail
 refine bodyPost_ret (v:=.agg #[.string A,.string M,.int .i64 mo,.int .i64 ev,.int .i64 su,.int .i64 mx,.slice ta tl tc,.slice ha hl hc,.int .i64 cd]) (by simp [results,Tryd.results32,go_sem,r0,r1,r2,r3,r4,r5,r6,r7,r8]) rfl ⟨_,rfl,.inr ⟨rfl,_,HSQ.out,HZ3.out⟩,HBF.out⟩
end WinR
namespace HourR
def hourV (n:Int):Int:=if 0≤n∧n≤121000000 then n.tdiv 60 else -1
theorem hour_bd (n:Int) (h1:0≤n) (h2:n≤121000000):0≤n.tdiv 60∧n.tdiv 60≤121000000:=by
 rw [Int.tdiv_eq_ediv_of_nonneg h1];omega
end HourR
namespace WinR
open RowG (MadeG Rws)
open EvtR (Pt ev evB empty_of full_of)
open CatR (Blk Blk.new)
open DateR (Laid)
def tgl (t:ByteArray):List ByteArray:=if t.size=0 then [] else [t]
theorem tgl_no {t:ByteArray} (h:t.size=0):tgl t=[]:=by unfold tgl;rw [if_pos h]
theorem tgl_yes {t:ByteArray} (h:¬t.size=0):tgl t=[t]:=by unfold tgl;rw [if_neg h]
theorem tgs_one (t:ByteArray) (w:World) (T:TypeId):Tgs (some ⟨w.heap.size,0,none⟩) [t] (w.alloc (.cells #[.string t] T)) :=
 .inr ⟨_,_,rfl,by simp,fun j hj=>by
  obtain rfl:j=0:=by simpa using hj
  intro c hc
  obtain rfl:c=0:=by omega
  simp [go_sem,tcells]⟩
theorem hrs_one1 (x y:Int) (w:World) (T:TypeId):Hrs (some ⟨w.heap.size,0,none⟩) [⟨x,y⟩] (w.alloc (.cells #[.int .i64 x,.int .i64 y] T)) :=
 .inr ⟨_,_,rfl,by simp,fun j hj=>by
  obtain rfl:j=0:=by simpa using hj
  intro c hc
  match c,hc with
  | 0,_=>simp [go_sem,H.cells]
  | 1,_=>simp [go_sem,H.cells]⟩
def UOx (B:Nat) (W0:World) (a m:ByteArray) (n k:Int) (W:World):Prop:=Below W0.heap.size W0 W∧B<W0.heap.size∧W.cell? ⟨B,1,none⟩=some (.string a)∧W.cell? ⟨B,2,none⟩=some (.string m)∧W.cell? ⟨B,3,none⟩=some (.int .i64 n)∧W.cell? ⟨B,4,none⟩=some (.int .i64 k)
theorem UOx.below {B:Nat} {W0:World} {a m:ByteArray} {n k:Int} {W W':World} (h:UOx B W0 a m n k W) (hb:Below W.heap.size W W'):UOx B W0 a m n k W':=by
 obtain ⟨h0,h1,c1,c2,c3,c4⟩:=h
 have c:=fun o=>hb.cell (p:=⟨B,o,none⟩) (Nat.lt_of_lt_of_le h1 h0.size)
 exact ⟨h0.trans (hb.mono h0.size),h1,(c 1).trans c1,(c 2).trans c2,(c 3).trans c3,(c 4).trans c4⟩
theorem UOx.put {B:Nat} {W0:World} {a m:ByteArray} {n k:Int} {W:World} (h:UOx B W0 a m n k W) (V o:Nat) (v:Value) (hV:W0.heap.size≤V):UOx B W0 a m n k (W.setCell ⟨V,o,none⟩ v):=by
 obtain ⟨h0,h1,c1,c2,c3,c4⟩:=h
 have e:=(RowG.grown_set W V o v).block B (Nat.lt_of_lt_of_le h1 h0.size) (by simp;omega)
 have c:=fun k=>World.cell?_of_block (a:=⟨B,k,none⟩) e
 exact ⟨h0.setCell hV _,h1,(c 1).trans c1,(c 2).trans c2,(c 3).trans c3,(c 4).trans c4⟩
theorem Hrs.put {ao:Option Addr} {hs:List H} {w:World} (h:Hrs ao hs w) (g o:Nat) (v:Value) (hne:∀b off,ao=some ⟨b,off,none⟩→b≠g):Hrs ao hs (w.setCell ⟨g,o,none⟩ v):=Rws.put h g o v (.inr hne)
end WinR
end Go.Proofs.YteejpnkmnmoebaaDoor
