/-
  Engines, and answers with engines, held against each other: put together of what their parts promise; and lists of sources. The condition: at most 1048576 sources.
-/
import Derived.Test.YtnceeaccbcfopaaGreatDoorT52
namespace Go.Proofs.YtnceeaccbcfopaaGreatDoor
open Go.ChangeShapes Go.WideShapes Go.ChangeAt Go.RowKit
set_option linter.unusedVariables false
namespace CatR
open EvtR (Pt cell_put cell_far)
open RowG (H_)
theorem eqSr_any (u:ByteArray) (p:Int) (w:World):Calls Tryz.prog 84 #[.agg #[.string u,.int .i64 p],.agg #[.string u,.int .i64 p]] w fun e w'=>e=.returned (.bool true)∧Below w.heap.size w w':=by
 go_enter Tryz.func84,Tryz.ntmps84
 go_wp2
 go_ret
 refine ⟨rfl,?_⟩
 repeat' first|exact Below.refl _ _|apply Below.setCell|apply Below.alloc
 all_goals first|omega|(simp;done)|(simp;omega)
set_option maxHeartbeats 4000000 in
theorem eqSrs_any (ao bo:Option Addr) (len cap cap':Nat) (ts:List Cr) (w:World) (hlen:len≤1048576) (hI:Crs ao len ts w) (hJ:Crs bo len ts w) :
 Calls Tryz.prog 35 #[.slice ao len cap,.slice bo len cap'] w fun e w'=>e=.returned (.bool true)∧Below w.heap.size w w':=by
 have HI:=H_ hI
 have HJ:=H_ hJ
 clear hI hJ
 go_enter Tryz.func35,Tryz.ntmps35
 go_wp2_with fail
 go_loopw [5] (fun z wr=>∃k:Nat,k≤len∧z=.int .i64 k∧Hid (Below w.heap.size w wr)) (fun z _=>len-(intOf z).toNat)
 case atStart=>exact ⟨0,by omega,rfl,H_ (Below.refl _ _)⟩
 case round =>
  obtain ⟨k,hk,rfl,HW⟩:=hrel
  by_cases hlt:k<len
  ·have hlt2:(k:Int)<(len:Int):=by omega
   obtain ⟨b,off,rfl,_,c0,c1⟩:=crs_at (HI.out.below HW.out) k hlt
   obtain ⟨b',off',rfl,_,e0,e1⟩:=crs_at (HJ.out.below HW.out) k hlt
   generalize ts.getD k Cr.zero=X at *
   obtain ⟨u,p⟩:=X
   have HC:=H_ (fun w=>eqSr_any u p w)
   go_wp2_with fail
   go_region_with (go_at_call 84;refine (HC.out _).mono ?_;rintro e w1 ⟨rfl,hb⟩)
   all_goals (
    have HB1:=H_ (HW.out.drew.trans (hb.mono HW.out.drew.size))
    clear hb c0 c1 e0 e1
    go_wp2_with fail
    go_roundw
    case rel=>exact ⟨k+1,by omega,by go_num,HB1⟩
    case measure=>simp [intOf];omega)
  ·have hlt2:¬(k:Int)<(len:Int):=by omega
   go_wp2_with fail
   go_ret
   exact ⟨rfl,HW.out⟩
set_option maxHeartbeats 4000000 in
theorem eqDcs0 (ao bo:Option Addr) (cap cap':Nat) (w:World):Calls Tryz.prog 33 #[.slice ao 0 cap,.slice bo 0 cap'] w fun e w'=>e=.returned (.bool true)∧Below w.heap.size w w':=by
 go_enter Tryz.func33,Tryz.ntmps33
 go_wp2_with fail
 go_loopw [5] (fun z wr=>z=.int .i64 0∧Hid (Below w.heap.size w wr)) (fun z _=>0)
 case atStart=>exact ⟨rfl,H_ (Below.refl _ _)⟩
 case round =>
  obtain ⟨rfl,HB⟩:=hrel
  go_wp2_with fail
  go_ret
  exact ⟨rfl,HB.out⟩
set_option maxHeartbeats 4000000 in
theorem eqCnt (c0 c1 c2 c3 c4:Int) (w:World):Calls Tryz.prog 32 #[.agg #[.int .i64 c0,.int .i64 c1,.int .i64 c2,.int .i64 c3,.int .i64 c4],.agg #[.int .i64 c0,.int .i64 c1,.int .i64 c2,.int .i64 c3,.int .i64 c4]] w fun e w'=>e=.returned (.bool true)∧Below w.heap.size w w':=by
 go_enter Tryz.func32,Tryz.ntmps32
 go_wp2
 go_ret
 refine ⟨rfl,?_⟩
 repeat' first|exact Below.refl _ _|apply Below.setCell|apply Below.alloc
 all_goals first|omega|(simp;done)|(simp;omega)
set_option maxHeartbeats 4000000 in
theorem eqEng (ma ma':Option Addr) (ml mc mc':Nat) (ca ca':Option Addr) (cl cc cc':Nat) (sa sa':Option Addr) (sl sc sc':Nat) (na na':Option Addr) (nl nc nc':Nat) (ua ua':Option Addr) (ul uc uc':Nat) (da da':Option Addr) (dl dc dc':Nat) (fr:Int) (w:World)
 (h0:∀W,Below w.heap.size w W→Calls Tryz.prog 34 #[.agg #[.slice ma ml mc,.slice ca cl cc],.agg #[.slice ma' ml mc',.slice ca' cl cc']] W fun e w'=>e=.returned (.bool true)∧Below W.heap.size W w')
 (h1:∀W,Below w.heap.size w W→Calls Tryz.prog 35 #[.slice sa sl sc,.slice sa' sl sc'] W fun e w'=>e=.returned (.bool true)∧Below W.heap.size W w')
 (h2:∀W,Below w.heap.size w W→Calls Tryz.prog 36 #[.slice na nl nc,.slice na' nl nc'] W fun e w'=>e=.returned (.bool true)∧Below W.heap.size W w')
 (h3:∀W,Below w.heap.size w W→Calls Tryz.prog 37 #[.slice ua ul uc,.slice ua' ul uc'] W fun e w'=>e=.returned (.bool true)∧Below W.heap.size W w')
 (h4:∀W,Below w.heap.size w W→Calls Tryz.prog 33 #[.slice da dl dc,.slice da' dl dc'] W fun e w'=>e=.returned (.bool true)∧Below W.heap.size W w') :
 Calls Tryz.prog 9 #[.agg #[.slice ma ml mc,.slice ca cl cc,.slice sa sl sc,.slice na nl nc,.slice ua ul uc,.slice da dl dc,.int .i64 fr],.agg #[.slice ma' ml mc',.slice ca' cl cc',.slice sa' sl sc',.slice na' nl nc',.slice ua' ul uc',.slice da' dl dc',.int .i64 fr]] w fun e w'=>e=.returned (.bool true)∧Below w.heap.size w w':=by
 have H0:=H_ h0
 have H1:=H_ h1
 have H2:=H_ h2
 have H3:=H_ h3
 have H4:=H_ h4
 clear h0 h1 h2 h3 h4
 obtain ⟨W0,hW0⟩:∃W0,W0=(w.alloc (.cells #[.slice ma ml mc,.slice ca cl cc,.slice sa sl sc,.slice na nl nc,.slice ua ul uc,.slice da dl dc,.int .i64 fr] 42)).alloc (.cells #[.slice ma' ml mc',.slice ca' cl cc',.slice sa' sl sc',.slice na' nl nc',.slice ua' ul uc',.slice da' dl dc',.int .i64 fr] 42):=⟨_,rfl⟩
 have B0:Hid (Below w.heap.size w W0):=H_ (by rw [hW0];exact ((Below.refl _ _).alloc (Nat.le_refl _) _).alloc (by simp) _)
 have X0:Hid (Blk w.heap.size [.slice ma ml mc,.slice ca cl cc,.slice sa sl sc,.slice na nl nc,.slice ua ul uc,.slice da dl dc,.int .i64 fr] W0):=H_ (by rw [hW0];exact (Blk.new w [.slice ma ml mc,.slice ca cl cc,.slice sa sl sc,.slice na nl nc,.slice ua ul uc,.slice da dl dc,.int .i64 fr] 42).below ((Below.refl _ _).alloc (Nat.le_refl _) _))
 have Y0:Hid (Blk (w.heap.size+1) [.slice ma' ml mc',.slice ca' cl cc',.slice sa' sl sc',.slice na' nl nc',.slice ua' ul uc',.slice da' dl dc',.int .i64 fr] W0):=H_ (by
  rw [hW0]
  obtain ⟨X,hX⟩:∃X,X=w.alloc (.cells #[.slice ma ml mc,.slice ca cl cc,.slice sa sl sc,.slice na nl nc,.slice ua ul uc,.slice da dl dc,.int .i64 fr] 42):=⟨_,rfl⟩
  have e:X.heap.size=w.heap.size+1:=by rw [hX];simp
  rw [←hX,←e]
  exact Blk.new X [.slice ma' ml mc',.slice ca' cl cc',.slice sa' sl sc',.slice na' nl nc',.slice ua' ul uc',.slice da' dl dc',.int .i64 fr] 42)
 have HW:=H_ hW0
 clear hW0
 go_enter Tryz.func9,Tryz.ntmps9
 go_wp2_with fail
 rw [←HW.out]
 clear HW
 refine (H0.out _ B0.out).mono ?_
 rintro e w1 ⟨rfl,hb⟩
 have B1:=H_ (B0.out.trans (hb.mono B0.out.size))
 have X1:=H_ (X0.out.below hb)
 have Y1:=H_ (Y0.out.below hb)
 clear hb B0 X0 Y0
 have xl:=X1.out.1
 have yl:=Y1.out.1
 have x0:w1.cell? ⟨w.heap.size,0,none⟩=some (.slice ma ml mc):=X1.out.2 0 (by simp)
 have y0:w1.cell? ⟨w.heap.size+1,0,none⟩=some (.slice ma' ml mc'):=Y1.out.2 0 (by simp)
 have x1:w1.cell? ⟨w.heap.size,1,none⟩=some (.slice ca cl cc):=X1.out.2 1 (by simp)
 have y1:w1.cell? ⟨w.heap.size+1,1,none⟩=some (.slice ca' cl cc'):=Y1.out.2 1 (by simp)
 have x2:w1.cell? ⟨w.heap.size,2,none⟩=some (.slice sa sl sc):=X1.out.2 2 (by simp)
 have y2:w1.cell? ⟨w.heap.size+1,2,none⟩=some (.slice sa' sl sc'):=Y1.out.2 2 (by simp)
 have x3:w1.cell? ⟨w.heap.size,3,none⟩=some (.slice na nl nc):=X1.out.2 3 (by simp)
 have y3:w1.cell? ⟨w.heap.size+1,3,none⟩=some (.slice na' nl nc'):=Y1.out.2 3 (by simp)
 have x4:w1.cell? ⟨w.heap.size,4,none⟩=some (.slice ua ul uc):=X1.out.2 4 (by simp)
 have y4:w1.cell? ⟨w.heap.size+1,4,none⟩=some (.slice ua' ul uc'):=Y1.out.2 4 (by simp)
 have x5:w1.cell? ⟨w.heap.size,5,none⟩=some (.slice da dl dc):=X1.out.2 5 (by simp)
 have y5:w1.cell? ⟨w.heap.size+1,5,none⟩=some (.slice da' dl dc'):=Y1.out.2 5 (by simp)
 have x6:w1.cell? ⟨w.heap.size,6,none⟩=some (.int .i64 fr):=X1.out.2 6 (by simp)
 have y6:w1.cell? ⟨w.heap.size+1,6,none⟩=some (.int .i64 fr):=Y1.out.2 6 (by simp)
 go_wp2_with fail
 refine (H1.out _ B1.out).mono ?_
 rintro e w2 ⟨rfl,hb⟩
 clear xl yl x0 y0 x1 y1 x2 y2 x3 y3 x4 y4 x5 y5 x6 y6
 have B2:=H_ (B1.out.trans (hb.mono B1.out.size))
 have X2:=H_ (X1.out.below hb)
 have Y2:=H_ (Y1.out.below hb)
 clear hb B1 X1 Y1
 have xl:=X2.out.1
 have yl:=Y2.out.1
 have x0:w2.cell? ⟨w.heap.size,0,none⟩=some (.slice ma ml mc):=X2.out.2 0 (by simp)
 have y0:w2.cell? ⟨w.heap.size+1,0,none⟩=some (.slice ma' ml mc'):=Y2.out.2 0 (by simp)
 have x1:w2.cell? ⟨w.heap.size,1,none⟩=some (.slice ca cl cc):=X2.out.2 1 (by simp)
 have y1:w2.cell? ⟨w.heap.size+1,1,none⟩=some (.slice ca' cl cc'):=Y2.out.2 1 (by simp)
 have x2:w2.cell? ⟨w.heap.size,2,none⟩=some (.slice sa sl sc):=X2.out.2 2 (by simp)
 have y2:w2.cell? ⟨w.heap.size+1,2,none⟩=some (.slice sa' sl sc'):=Y2.out.2 2 (by simp)
 have x3:w2.cell? ⟨w.heap.size,3,none⟩=some (.slice na nl nc):=X2.out.2 3 (by simp)
 have y3:w2.cell? ⟨w.heap.size+1,3,none⟩=some (.slice na' nl nc'):=Y2.out.2 3 (by simp)
 have x4:w2.cell? ⟨w.heap.size,4,none⟩=some (.slice ua ul uc):=X2.out.2 4 (by simp)
 have y4:w2.cell? ⟨w.heap.size+1,4,none⟩=some (.slice ua' ul uc'):=Y2.out.2 4 (by simp)
 have x5:w2.cell? ⟨w.heap.size,5,none⟩=some (.slice da dl dc):=X2.out.2 5 (by simp)
 have y5:w2.cell? ⟨w.heap.size+1,5,none⟩=some (.slice da' dl dc'):=Y2.out.2 5 (by simp)
 have x6:w2.cell? ⟨w.heap.size,6,none⟩=some (.int .i64 fr):=X2.out.2 6 (by simp)
 have y6:w2.cell? ⟨w.heap.size+1,6,none⟩=some (.int .i64 fr):=Y2.out.2 6 (by simp)
 go_wp2_with fail
 refine (H2.out _ B2.out).mono ?_
 rintro e w3 ⟨rfl,hb⟩
 clear xl yl x0 y0 x1 y1 x2 y2 x3 y3 x4 y4 x5 y5 x6 y6
 have B3:=H_ (B2.out.trans (hb.mono B2.out.size))
 have X3:=H_ (X2.out.below hb)
 have Y3:=H_ (Y2.out.below hb)
 clear hb B2 X2 Y2
 have xl:=X3.out.1
 have yl:=Y3.out.1
 have x0:w3.cell? ⟨w.heap.size,0,none⟩=some (.slice ma ml mc):=X3.out.2 0 (by simp)
 have y0:w3.cell? ⟨w.heap.size+1,0,none⟩=some (.slice ma' ml mc'):=Y3.out.2 0 (by simp)
 have x1:w3.cell? ⟨w.heap.size,1,none⟩=some (.slice ca cl cc):=X3.out.2 1 (by simp)
 have y1:w3.cell? ⟨w.heap.size+1,1,none⟩=some (.slice ca' cl cc'):=Y3.out.2 1 (by simp)
 have x2:w3.cell? ⟨w.heap.size,2,none⟩=some (.slice sa sl sc):=X3.out.2 2 (by simp)
 have y2:w3.cell? ⟨w.heap.size+1,2,none⟩=some (.slice sa' sl sc'):=Y3.out.2 2 (by simp)
 have x3:w3.cell? ⟨w.heap.size,3,none⟩=some (.slice na nl nc):=X3.out.2 3 (by simp)
 have y3:w3.cell? ⟨w.heap.size+1,3,none⟩=some (.slice na' nl nc'):=Y3.out.2 3 (by simp)
 have x4:w3.cell? ⟨w.heap.size,4,none⟩=some (.slice ua ul uc):=X3.out.2 4 (by simp)
 have y4:w3.cell? ⟨w.heap.size+1,4,none⟩=some (.slice ua' ul uc'):=Y3.out.2 4 (by simp)
 have x5:w3.cell? ⟨w.heap.size,5,none⟩=some (.slice da dl dc):=X3.out.2 5 (by simp)
 have y5:w3.cell? ⟨w.heap.size+1,5,none⟩=some (.slice da' dl dc'):=Y3.out.2 5 (by simp)
 have x6:w3.cell? ⟨w.heap.size,6,none⟩=some (.int .i64 fr):=X3.out.2 6 (by simp)
 have y6:w3.cell? ⟨w.heap.size+1,6,none⟩=some (.int .i64 fr):=Y3.out.2 6 (by simp)
 go_wp2_with fail
 refine (H3.out _ B3.out).mono ?_
 rintro e w4 ⟨rfl,hb⟩
 clear xl yl x0 y0 x1 y1 x2 y2 x3 y3 x4 y4 x5 y5 x6 y6
 have B4:=H_ (B3.out.trans (hb.mono B3.out.size))
 have X4:=H_ (X3.out.below hb)
 have Y4:=H_ (Y3.out.below hb)
 clear hb B3 X3 Y3
 have xl:=X4.out.1
 have yl:=Y4.out.1
 have x0:w4.cell? ⟨w.heap.size,0,none⟩=some (.slice ma ml mc):=X4.out.2 0 (by simp)
 have y0:w4.cell? ⟨w.heap.size+1,0,none⟩=some (.slice ma' ml mc'):=Y4.out.2 0 (by simp)
 have x1:w4.cell? ⟨w.heap.size,1,none⟩=some (.slice ca cl cc):=X4.out.2 1 (by simp)
 have y1:w4.cell? ⟨w.heap.size+1,1,none⟩=some (.slice ca' cl cc'):=Y4.out.2 1 (by simp)
 have x2:w4.cell? ⟨w.heap.size,2,none⟩=some (.slice sa sl sc):=X4.out.2 2 (by simp)
 have y2:w4.cell? ⟨w.heap.size+1,2,none⟩=some (.slice sa' sl sc'):=Y4.out.2 2 (by simp)
 have x3:w4.cell? ⟨w.heap.size,3,none⟩=some (.slice na nl nc):=X4.out.2 3 (by simp)
 have y3:w4.cell? ⟨w.heap.size+1,3,none⟩=some (.slice na' nl nc'):=Y4.out.2 3 (by simp)
 have x4:w4.cell? ⟨w.heap.size,4,none⟩=some (.slice ua ul uc):=X4.out.2 4 (by simp)
 have y4:w4.cell? ⟨w.heap.size+1,4,none⟩=some (.slice ua' ul uc'):=Y4.out.2 4 (by simp)
 have x5:w4.cell? ⟨w.heap.size,5,none⟩=some (.slice da dl dc):=X4.out.2 5 (by simp)
 have y5:w4.cell? ⟨w.heap.size+1,5,none⟩=some (.slice da' dl dc'):=Y4.out.2 5 (by simp)
 have x6:w4.cell? ⟨w.heap.size,6,none⟩=some (.int .i64 fr):=X4.out.2 6 (by simp)
 have y6:w4.cell? ⟨w.heap.size+1,6,none⟩=some (.int .i64 fr):=Y4.out.2 6 (by simp)
 go_wp2_with fail
 refine (H4.out _ B4.out).mono ?_
 rintro e w5 ⟨rfl,hb⟩
 clear xl yl x0 y0 x1 y1 x2 y2 x3 y3 x4 y4 x5 y5 x6 y6
 have B5:=H_ (B4.out.trans (hb.mono B4.out.size))
 have X5:=H_ (X4.out.below hb)
 have Y5:=H_ (Y4.out.below hb)
 clear hb B4 X4 Y4
 have xl:=X5.out.1
 have yl:=Y5.out.1
 have x0:w5.cell? ⟨w.heap.size,0,none⟩=some (.slice ma ml mc):=X5.out.2 0 (by simp)
 have y0:w5.cell? ⟨w.heap.size+1,0,none⟩=some (.slice ma' ml mc'):=Y5.out.2 0 (by simp)
 have x1:w5.cell? ⟨w.heap.size,1,none⟩=some (.slice ca cl cc):=X5.out.2 1 (by simp)
 have y1:w5.cell? ⟨w.heap.size+1,1,none⟩=some (.slice ca' cl cc'):=Y5.out.2 1 (by simp)
 have x2:w5.cell? ⟨w.heap.size,2,none⟩=some (.slice sa sl sc):=X5.out.2 2 (by simp)
 have y2:w5.cell? ⟨w.heap.size+1,2,none⟩=some (.slice sa' sl sc'):=Y5.out.2 2 (by simp)
 have x3:w5.cell? ⟨w.heap.size,3,none⟩=some (.slice na nl nc):=X5.out.2 3 (by simp)
 have y3:w5.cell? ⟨w.heap.size+1,3,none⟩=some (.slice na' nl nc'):=Y5.out.2 3 (by simp)
 have x4:w5.cell? ⟨w.heap.size,4,none⟩=some (.slice ua ul uc):=X5.out.2 4 (by simp)
 have y4:w5.cell? ⟨w.heap.size+1,4,none⟩=some (.slice ua' ul uc'):=Y5.out.2 4 (by simp)
 have x5:w5.cell? ⟨w.heap.size,5,none⟩=some (.slice da dl dc):=X5.out.2 5 (by simp)
 have y5:w5.cell? ⟨w.heap.size+1,5,none⟩=some (.slice da' dl dc'):=Y5.out.2 5 (by simp)
 have x6:w5.cell? ⟨w.heap.size,6,none⟩=some (.int .i64 fr):=X5.out.2 6 (by simp)
 have y6:w5.cell? ⟨w.heap.size+1,6,none⟩=some (.int .i64 fr):=Y5.out.2 6 (by simp)
 go_wp2_with fail
 go_ret
 exact ⟨rfl,B5.out⟩
set_option maxHeartbeats 4000000 in
theorem eqEout (ma ma':Option Addr) (ml mc mc':Nat) (ca ca':Option Addr) (cl cc cc':Nat) (sa sa':Option Addr) (sl sc sc':Nat) (na na':Option Addr) (nl nc nc':Nat) (ua ua':Option Addr) (ul uc uc':Nat) (da da':Option Addr) (dl dc dc':Nat) (oa oa':Option Addr) (ol oc oc':Nat) (fr c0 c1 c2 c3 c4 cd:Int) (w:World)
 (h0:∀W,Below w.heap.size w W→Calls Tryz.prog 9 #[.agg #[.slice ma ml mc,.slice ca cl cc,.slice sa sl sc,.slice na nl nc,.slice ua ul uc,.slice da dl dc,.int .i64 fr],.agg #[.slice ma' ml mc',.slice ca' cl cc',.slice sa' sl sc',.slice na' nl nc',.slice ua' ul uc',.slice da' dl dc',.int .i64 fr]] W fun e w'=>e=.returned (.bool true)∧Below W.heap.size W w')
 (h1:∀W,Below w.heap.size w W→Calls Tryz.prog 32 #[.agg #[.int .i64 c0,.int .i64 c1,.int .i64 c2,.int .i64 c3,.int .i64 c4],.agg #[.int .i64 c0,.int .i64 c1,.int .i64 c2,.int .i64 c3,.int .i64 c4]] W fun e w'=>e=.returned (.bool true)∧Below W.heap.size W w')
 (h2:∀W,Below w.heap.size w W→Calls Tryz.prog 33 #[.slice oa ol oc,.slice oa' ol oc'] W fun e w'=>e=.returned (.bool true)∧Below W.heap.size W w') :
 Calls Tryz.prog 8 #[.agg #[.slice ma ml mc,.slice ca cl cc,.slice sa sl sc,.slice na nl nc,.slice ua ul uc,.slice da dl dc,.int .i64 fr,.int .i64 c0,.int .i64 c1,.int .i64 c2,.int .i64 c3,.int .i64 c4,.slice oa ol oc,.int .i64 cd],.agg #[.slice ma' ml mc',.slice ca' cl cc',.slice sa' sl sc',.slice na' nl nc',.slice ua' ul uc',.slice da' dl dc',.int .i64 fr,.int .i64 c0,.int .i64 c1,.int .i64 c2,.int .i64 c3,.int .i64 c4,.slice oa' ol oc',.int .i64 cd]] w fun e w'=>e=.returned (.bool true)∧Below w.heap.size w w':=by
 have H0:=H_ h0
 have H1:=H_ h1
 have H2:=H_ h2
 clear h0 h1 h2
 obtain ⟨W0,hW0⟩:∃W0,W0=(w.alloc (.cells #[.slice ma ml mc,.slice ca cl cc,.slice sa sl sc,.slice na nl nc,.slice ua ul uc,.slice da dl dc,.int .i64 fr,.int .i64 c0,.int .i64 c1,.int .i64 c2,.int .i64 c3,.int .i64 c4,.slice oa ol oc,.int .i64 cd] 46)).alloc (.cells #[.slice ma' ml mc',.slice ca' cl cc',.slice sa' sl sc',.slice na' nl nc',.slice ua' ul uc',.slice da' dl dc',.int .i64 fr,.int .i64 c0,.int .i64 c1,.int .i64 c2,.int .i64 c3,.int .i64 c4,.slice oa' ol oc',.int .i64 cd] 46):=⟨_,rfl⟩
 have B0:Hid (Below w.heap.size w W0):=H_ (by rw [hW0];exact ((Below.refl _ _).alloc (Nat.le_refl _) _).alloc (by simp) _)
 have X0:Hid (Blk w.heap.size [.slice ma ml mc,.slice ca cl cc,.slice sa sl sc,.slice na nl nc,.slice ua ul uc,.slice da dl dc,.int .i64 fr,.int .i64 c0,.int .i64 c1,.int .i64 c2,.int .i64 c3,.int .i64 c4,.slice oa ol oc,.int .i64 cd] W0):=H_ (by rw [hW0];exact (Blk.new w [.slice ma ml mc,.slice ca cl cc,.slice sa sl sc,.slice na nl nc,.slice ua ul uc,.slice da dl dc,.int .i64 fr,.int .i64 c0,.int .i64 c1,.int .i64 c2,.int .i64 c3,.int .i64 c4,.slice oa ol oc,.int .i64 cd] 46).below ((Below.refl _ _).alloc (Nat.le_refl _) _))
 have Y0:Hid (Blk (w.heap.size+1) [.slice ma' ml mc',.slice ca' cl cc',.slice sa' sl sc',.slice na' nl nc',.slice ua' ul uc',.slice da' dl dc',.int .i64 fr,.int .i64 c0,.int .i64 c1,.int .i64 c2,.int .i64 c3,.int .i64 c4,.slice oa' ol oc',.int .i64 cd] W0):=H_ (by
  rw [hW0]
  obtain ⟨X,hX⟩:∃X,X=w.alloc (.cells #[.slice ma ml mc,.slice ca cl cc,.slice sa sl sc,.slice na nl nc,.slice ua ul uc,.slice da dl dc,.int .i64 fr,.int .i64 c0,.int .i64 c1,.int .i64 c2,.int .i64 c3,.int .i64 c4,.slice oa ol oc,.int .i64 cd] 46):=⟨_,rfl⟩
  have e:X.heap.size=w.heap.size+1:=by rw [hX];simp
  rw [←hX,←e]
  exact Blk.new X [.slice ma' ml mc',.slice ca' cl cc',.slice sa' sl sc',.slice na' nl nc',.slice ua' ul uc',.slice da' dl dc',.int .i64 fr,.int .i64 c0,.int .i64 c1,.int .i64 c2,.int .i64 c3,.int .i64 c4,.slice oa' ol oc',.int .i64 cd] 46)
 have HW:=H_ hW0
 clear hW0
 go_enter Tryz.func8,Tryz.ntmps8
 go_wp2_with fail
 rw [←HW.out]
 clear HW
 refine (H0.out _ B0.out).mono ?_
 rintro e w1 ⟨rfl,hb⟩
 have B1:=H_ (B0.out.trans (hb.mono B0.out.size))
 have X1:=H_ (X0.out.below hb)
 have Y1:=H_ (Y0.out.below hb)
 clear hb B0 X0 Y0
 have xl:=X1.out.1
 have yl:=Y1.out.1
 have x0:w1.cell? ⟨w.heap.size,0,none⟩=some (.slice ma ml mc):=X1.out.2 0 (by simp)
 have y0:w1.cell? ⟨w.heap.size+1,0,none⟩=some (.slice ma' ml mc'):=Y1.out.2 0 (by simp)
 have x1:w1.cell? ⟨w.heap.size,1,none⟩=some (.slice ca cl cc):=X1.out.2 1 (by simp)
 have y1:w1.cell? ⟨w.heap.size+1,1,none⟩=some (.slice ca' cl cc'):=Y1.out.2 1 (by simp)
 have x2:w1.cell? ⟨w.heap.size,2,none⟩=some (.slice sa sl sc):=X1.out.2 2 (by simp)
 have y2:w1.cell? ⟨w.heap.size+1,2,none⟩=some (.slice sa' sl sc'):=Y1.out.2 2 (by simp)
 have x3:w1.cell? ⟨w.heap.size,3,none⟩=some (.slice na nl nc):=X1.out.2 3 (by simp)
 have y3:w1.cell? ⟨w.heap.size+1,3,none⟩=some (.slice na' nl nc'):=Y1.out.2 3 (by simp)
 have x4:w1.cell? ⟨w.heap.size,4,none⟩=some (.slice ua ul uc):=X1.out.2 4 (by simp)
 have y4:w1.cell? ⟨w.heap.size+1,4,none⟩=some (.slice ua' ul uc'):=Y1.out.2 4 (by simp)
 have x5:w1.cell? ⟨w.heap.size,5,none⟩=some (.slice da dl dc):=X1.out.2 5 (by simp)
 have y5:w1.cell? ⟨w.heap.size+1,5,none⟩=some (.slice da' dl dc'):=Y1.out.2 5 (by simp)
 have x6:w1.cell? ⟨w.heap.size,6,none⟩=some (.int .i64 fr):=X1.out.2 6 (by simp)
 have y6:w1.cell? ⟨w.heap.size+1,6,none⟩=some (.int .i64 fr):=Y1.out.2 6 (by simp)
 have x7:w1.cell? ⟨w.heap.size,7,none⟩=some (.int .i64 c0):=X1.out.2 7 (by simp)
 have y7:w1.cell? ⟨w.heap.size+1,7,none⟩=some (.int .i64 c0):=Y1.out.2 7 (by simp)
 have x8:w1.cell? ⟨w.heap.size,8,none⟩=some (.int .i64 c1):=X1.out.2 8 (by simp)
 have y8:w1.cell? ⟨w.heap.size+1,8,none⟩=some (.int .i64 c1):=Y1.out.2 8 (by simp)
 have x9:w1.cell? ⟨w.heap.size,9,none⟩=some (.int .i64 c2):=X1.out.2 9 (by simp)
 have y9:w1.cell? ⟨w.heap.size+1,9,none⟩=some (.int .i64 c2):=Y1.out.2 9 (by simp)
 have x10:w1.cell? ⟨w.heap.size,10,none⟩=some (.int .i64 c3):=X1.out.2 10 (by simp)
 have y10:w1.cell? ⟨w.heap.size+1,10,none⟩=some (.int .i64 c3):=Y1.out.2 10 (by simp)
 have x11:w1.cell? ⟨w.heap.size,11,none⟩=some (.int .i64 c4):=X1.out.2 11 (by simp)
 have y11:w1.cell? ⟨w.heap.size+1,11,none⟩=some (.int .i64 c4):=Y1.out.2 11 (by simp)
 have x12:w1.cell? ⟨w.heap.size,12,none⟩=some (.slice oa ol oc):=X1.out.2 12 (by simp)
 have y12:w1.cell? ⟨w.heap.size+1,12,none⟩=some (.slice oa' ol oc'):=Y1.out.2 12 (by simp)
 have x13:w1.cell? ⟨w.heap.size,13,none⟩=some (.int .i64 cd):=X1.out.2 13 (by simp)
 have y13:w1.cell? ⟨w.heap.size+1,13,none⟩=some (.int .i64 cd):=Y1.out.2 13 (by simp)
 go_wp2_with fail
 refine (H1.out _ B1.out).mono ?_
 rintro e w2 ⟨rfl,hb⟩
 clear xl yl x0 y0 x1 y1 x2 y2 x3 y3 x4 y4 x5 y5 x6 y6 x7 y7 x8 y8 x9 y9 x10 y10 x11 y11 x12 y12 x13 y13
 have B2:=H_ (B1.out.trans (hb.mono B1.out.size))
 have X2:=H_ (X1.out.below hb)
 have Y2:=H_ (Y1.out.below hb)
 clear hb B1 X1 Y1
 have xl:=X2.out.1
 have yl:=Y2.out.1
 have x0:w2.cell? ⟨w.heap.size,0,none⟩=some (.slice ma ml mc):=X2.out.2 0 (by simp)
 have y0:w2.cell? ⟨w.heap.size+1,0,none⟩=some (.slice ma' ml mc'):=Y2.out.2 0 (by simp)
 have x1:w2.cell? ⟨w.heap.size,1,none⟩=some (.slice ca cl cc):=X2.out.2 1 (by simp)
 have y1:w2.cell? ⟨w.heap.size+1,1,none⟩=some (.slice ca' cl cc'):=Y2.out.2 1 (by simp)
 have x2:w2.cell? ⟨w.heap.size,2,none⟩=some (.slice sa sl sc):=X2.out.2 2 (by simp)
 have y2:w2.cell? ⟨w.heap.size+1,2,none⟩=some (.slice sa' sl sc'):=Y2.out.2 2 (by simp)
 have x3:w2.cell? ⟨w.heap.size,3,none⟩=some (.slice na nl nc):=X2.out.2 3 (by simp)
 have y3:w2.cell? ⟨w.heap.size+1,3,none⟩=some (.slice na' nl nc'):=Y2.out.2 3 (by simp)
 have x4:w2.cell? ⟨w.heap.size,4,none⟩=some (.slice ua ul uc):=X2.out.2 4 (by simp)
 have y4:w2.cell? ⟨w.heap.size+1,4,none⟩=some (.slice ua' ul uc'):=Y2.out.2 4 (by simp)
 have x5:w2.cell? ⟨w.heap.size,5,none⟩=some (.slice da dl dc):=X2.out.2 5 (by simp)
 have y5:w2.cell? ⟨w.heap.size+1,5,none⟩=some (.slice da' dl dc'):=Y2.out.2 5 (by simp)
 have x6:w2.cell? ⟨w.heap.size,6,none⟩=some (.int .i64 fr):=X2.out.2 6 (by simp)
 have y6:w2.cell? ⟨w.heap.size+1,6,none⟩=some (.int .i64 fr):=Y2.out.2 6 (by simp)
 have x7:w2.cell? ⟨w.heap.size,7,none⟩=some (.int .i64 c0):=X2.out.2 7 (by simp)
 have y7:w2.cell? ⟨w.heap.size+1,7,none⟩=some (.int .i64 c0):=Y2.out.2 7 (by simp)
 have x8:w2.cell? ⟨w.heap.size,8,none⟩=some (.int .i64 c1):=X2.out.2 8 (by simp)
 have y8:w2.cell? ⟨w.heap.size+1,8,none⟩=some (.int .i64 c1):=Y2.out.2 8 (by simp)
 have x9:w2.cell? ⟨w.heap.size,9,none⟩=some (.int .i64 c2):=X2.out.2 9 (by simp)
 have y9:w2.cell? ⟨w.heap.size+1,9,none⟩=some (.int .i64 c2):=Y2.out.2 9 (by simp)
 have x10:w2.cell? ⟨w.heap.size,10,none⟩=some (.int .i64 c3):=X2.out.2 10 (by simp)
 have y10:w2.cell? ⟨w.heap.size+1,10,none⟩=some (.int .i64 c3):=Y2.out.2 10 (by simp)
 have x11:w2.cell? ⟨w.heap.size,11,none⟩=some (.int .i64 c4):=X2.out.2 11 (by simp)
 have y11:w2.cell? ⟨w.heap.size+1,11,none⟩=some (.int .i64 c4):=Y2.out.2 11 (by simp)
 have x12:w2.cell? ⟨w.heap.size,12,none⟩=some (.slice oa ol oc):=X2.out.2 12 (by simp)
 have y12:w2.cell? ⟨w.heap.size+1,12,none⟩=some (.slice oa' ol oc'):=Y2.out.2 12 (by simp)
 have x13:w2.cell? ⟨w.heap.size,13,none⟩=some (.int .i64 cd):=X2.out.2 13 (by simp)
 have y13:w2.cell? ⟨w.heap.size+1,13,none⟩=some (.int .i64 cd):=Y2.out.2 13 (by simp)
 go_wp2_with fail
 refine (H2.out _ B2.out).mono ?_
 rintro e w3 ⟨rfl,hb⟩
 clear xl yl x0 y0 x1 y1 x2 y2 x3 y3 x4 y4 x5 y5 x6 y6 x7 y7 x8 y8 x9 y9 x10 y10 x11 y11 x12 y12 x13 y13
 have B3:=H_ (B2.out.trans (hb.mono B2.out.size))
 have X3:=H_ (X2.out.below hb)
 have Y3:=H_ (Y2.out.below hb)
 clear hb B2 X2 Y2
 have xl:=X3.out.1
 have yl:=Y3.out.1
 have x0:w3.cell? ⟨w.heap.size,0,none⟩=some (.slice ma ml mc):=X3.out.2 0 (by simp)
 have y0:w3.cell? ⟨w.heap.size+1,0,none⟩=some (.slice ma' ml mc'):=Y3.out.2 0 (by simp)
 have x1:w3.cell? ⟨w.heap.size,1,none⟩=some (.slice ca cl cc):=X3.out.2 1 (by simp)
 have y1:w3.cell? ⟨w.heap.size+1,1,none⟩=some (.slice ca' cl cc'):=Y3.out.2 1 (by simp)
 have x2:w3.cell? ⟨w.heap.size,2,none⟩=some (.slice sa sl sc):=X3.out.2 2 (by simp)
 have y2:w3.cell? ⟨w.heap.size+1,2,none⟩=some (.slice sa' sl sc'):=Y3.out.2 2 (by simp)
 have x3:w3.cell? ⟨w.heap.size,3,none⟩=some (.slice na nl nc):=X3.out.2 3 (by simp)
 have y3:w3.cell? ⟨w.heap.size+1,3,none⟩=some (.slice na' nl nc'):=Y3.out.2 3 (by simp)
 have x4:w3.cell? ⟨w.heap.size,4,none⟩=some (.slice ua ul uc):=X3.out.2 4 (by simp)
 have y4:w3.cell? ⟨w.heap.size+1,4,none⟩=some (.slice ua' ul uc'):=Y3.out.2 4 (by simp)
 have x5:w3.cell? ⟨w.heap.size,5,none⟩=some (.slice da dl dc):=X3.out.2 5 (by simp)
 have y5:w3.cell? ⟨w.heap.size+1,5,none⟩=some (.slice da' dl dc'):=Y3.out.2 5 (by simp)
 have x6:w3.cell? ⟨w.heap.size,6,none⟩=some (.int .i64 fr):=X3.out.2 6 (by simp)
 have y6:w3.cell? ⟨w.heap.size+1,6,none⟩=some (.int .i64 fr):=Y3.out.2 6 (by simp)
 have x7:w3.cell? ⟨w.heap.size,7,none⟩=some (.int .i64 c0):=X3.out.2 7 (by simp)
 have y7:w3.cell? ⟨w.heap.size+1,7,none⟩=some (.int .i64 c0):=Y3.out.2 7 (by simp)
 have x8:w3.cell? ⟨w.heap.size,8,none⟩=some (.int .i64 c1):=X3.out.2 8 (by simp)
 have y8:w3.cell? ⟨w.heap.size+1,8,none⟩=some (.int .i64 c1):=Y3.out.2 8 (by simp)
 have x9:w3.cell? ⟨w.heap.size,9,none⟩=some (.int .i64 c2):=X3.out.2 9 (by simp)
 have y9:w3.cell? ⟨w.heap.size+1,9,none⟩=some (.int .i64 c2):=Y3.out.2 9 (by simp)
 have x10:w3.cell? ⟨w.heap.size,10,none⟩=some (.int .i64 c3):=X3.out.2 10 (by simp)
 have y10:w3.cell? ⟨w.heap.size+1,10,none⟩=some (.int .i64 c3):=Y3.out.2 10 (by simp)
 have x11:w3.cell? ⟨w.heap.size,11,none⟩=some (.int .i64 c4):=X3.out.2 11 (by simp)
 have y11:w3.cell? ⟨w.heap.size+1,11,none⟩=some (.int .i64 c4):=Y3.out.2 11 (by simp)
 have x12:w3.cell? ⟨w.heap.size,12,none⟩=some (.slice oa ol oc):=X3.out.2 12 (by simp)
 have y12:w3.cell? ⟨w.heap.size+1,12,none⟩=some (.slice oa' ol oc'):=Y3.out.2 12 (by simp)
 have x13:w3.cell? ⟨w.heap.size,13,none⟩=some (.int .i64 cd):=X3.out.2 13 (by simp)
 have y13:w3.cell? ⟨w.heap.size+1,13,none⟩=some (.int .i64 cd):=Y3.out.2 13 (by simp)
 go_wp2_with fail
 go_ret
 exact ⟨rfl,B3.out⟩
end CatR
end Go.Proofs.YtnceeaccbcfopaaGreatDoor
