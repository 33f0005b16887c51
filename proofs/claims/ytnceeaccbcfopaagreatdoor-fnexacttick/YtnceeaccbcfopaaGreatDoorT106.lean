/-
  What the model calls a right window. The conditions: texts of at most 1048576 bytes, at most 1048576 tags.
-/
import Derived.Test.YtnceeaccbcfopaaGreatDoorT105
namespace Go.Proofs.YtnceeaccbcfopaaGreatDoor
open Go.ChangeShapes Go.WideShapes Go.ChangeAt Go.RowKit
set_option linter.unusedVariables false
namespace WinR
open RowG LtR
open CatR (Blk Blk.new)
theorem six (b1 b2 b3 b4 b5 b6:Bool):(b1=false)∨(b1=true∧b2=false)∨(b1=true∧b2=true∧b3=false)∨(b1=true∧b2=true∧b3=true∧b4=false)∨(b1=true∧b2=true∧b3=true∧b4=true∧b5=false)∨(b1=true∧b2=true∧b3=true∧b4=true∧b5=true∧b6=false)∨(b1=true∧b2=true∧b3=true∧b4=true∧b5=true∧b6=true):=by
 cases b1<;>cases b2<;>cases b3<;>cases b4<;>cases b5<;>cases b6<;>simp
theorem sisMonth_any (n:Int) (w:World):Calls Tryz.prog 55 #[.int .i64 n] w fun e w'=>e=.returned (.bool (decide (0≤n∧n≤2760)))∧w'=w:=by
 have H:=EvtR.is_any n 0 2760
 generalize decide (0≤n∧n≤2760)=b at *
 go_enter Tryz.func55,Tryz.ntmps55
 go_wp2_with (go_at_call 63;refine (H _).mono ?_;rintro e w' ⟨rfl,rfl⟩)
 go_ret
 exact ⟨rfl,rfl⟩
set_option maxRecDepth 100000 in
set_option maxHeartbeats 8000000 in
theorem sright_in (a m:ByteArray) (mo ev su mx:Int) (ta:Option Addr) (tl tc:Nat) (ha:Option Addr) (hl hc:Nat) (b1 b2 b3 b4 b5 b6 b7 b8:Bool) (w:World)
 (h1:∀W,Calls Tryz.prog 104 #[.string a] W fun e w'=>e=.returned (.bool b1)∧w'=W) (h2:∀W,Calls Tryz.prog 104 #[.string m] W fun e w'=>e=.returned (.bool b2)∧w'=W) (h3:∀W,Calls Tryz.prog 55 #[.int .i64 mo] W fun e w'=>e=.returned (.bool b3)∧w'=W) (h4:∀W,Calls Tryz.prog 63 #[.int .i64 ev,.int .i64 1,.int .i64 1000] W fun e w'=>e=.returned (.bool b4)∧w'=W) (h5:∀W,Calls Tryz.prog 63 #[.int .i64 su,.int .i64 0,.int .i64 1000000000000] W fun e w'=>e=.returned (.bool b5)∧w'=W) (h6:∀W,Calls Tryz.prog 63 #[.int .i64 mx,.int .i64 0,.int .i64 su] W fun e w'=>e=.returned (.bool b6)∧w'=W)
 (h7:∀W,Below w.heap.size w W→Calls Tryz.prog 110 #[.slice ta tl tc] W fun e w'=>e=.returned (.bool b7)∧Below W.heap.size W w')
 (h8:b5=true→hl≤12→∀W,Below w.heap.size w W→Calls Tryz.prog 111 #[.slice ha hl hc,.int .i64 mo,.int .i64 su] W fun e w'=>e=.returned (.bool b8)∧Below W.heap.size W w') :
 Calls Tryz.prog 56 #[.agg #[.string a,.string m,.int .i64 mo,.int .i64 ev,.int .i64 su,.int .i64 mx,.slice ta tl tc,.slice ha hl hc]] w fun e w'=>e=.returned (.bool ((b1&&(b2&&b3))&&((b4&&(b5&&b6))&&(b7&&(decide (1≤hl∧hl≤12)&&b8)))))∧Below w.heap.size w w':=by
 have H1:=H_ h1
 have H2:=H_ h2
 have H3:=H_ h3
 have H4:=H_ h4
 have H5:=H_ h5
 have H6:=H_ h6
 have H7:=H_ h7
 have H8:=H_ h8
 clear h1 h2 h3 h4 h5 h6 h7 h8
 have HB0:Hid (Below w.heap.size w (w.alloc (.cells #[.string a,.string m,.int .i64 mo,.int .i64 ev,.int .i64 su,.int .i64 mx,.slice ta tl tc,.slice ha hl hc] 106))):=H_ ((Below.refl _ _).alloc (Nat.le_refl _) _)
 have HX0:=H_ (Blk.new w [.string a,.string m,.int .i64 mo,.int .i64 ev,.int .i64 su,.int .i64 mx,.slice ta tl tc,.slice ha hl hc] 106)
 rcases six b1 b2 b3 b4 b5 b6 with rfl|⟨rfl,rfl⟩|⟨rfl,rfl,rfl⟩|⟨rfl,rfl,rfl,rfl⟩|⟨rfl,rfl,rfl,rfl,rfl⟩|⟨rfl,rfl,rfl,rfl,rfl,rfl⟩|⟨rfl,rfl,rfl,rfl,rfl,rfl⟩
 ·go_enter Tryz.func56,Tryz.ntmps56
  go_wp2_with fail
  refine (H1.out _).mono ?_
  rintro e w1 ⟨rfl,rfl⟩
  go_wp2_with fail
  go_ret
  exact ⟨ret_bool (by simp),HB0.out⟩
 ·go_enter Tryz.func56,Tryz.ntmps56
  go_wp2_with fail
  refine (H1.out _).mono ?_
  rintro e w1 ⟨rfl,rfl⟩
  go_wp2_with fail
  refine (H2.out _).mono ?_
  rintro e w1 ⟨rfl,rfl⟩
  go_wp2_with fail
  go_ret
  exact ⟨ret_bool (by simp),HB0.out⟩
 ·go_enter Tryz.func56,Tryz.ntmps56
  go_wp2_with fail
  refine (H1.out _).mono ?_
  rintro e w1 ⟨rfl,rfl⟩
  go_wp2_with fail
  refine (H2.out _).mono ?_
  rintro e w1 ⟨rfl,rfl⟩
  go_wp2_with fail
  refine (H3.out _).mono ?_
  rintro e w1 ⟨rfl,rfl⟩
  go_wp2_with fail
  go_ret
  exact ⟨ret_bool (by simp),HB0.out⟩
 ·go_enter Tryz.func56,Tryz.ntmps56
  go_wp2_with fail
  refine (H1.out _).mono ?_
  rintro e w1 ⟨rfl,rfl⟩
  go_wp2_with fail
  refine (H2.out _).mono ?_
  rintro e w1 ⟨rfl,rfl⟩
  go_wp2_with fail
  refine (H3.out _).mono ?_
  rintro e w1 ⟨rfl,rfl⟩
  go_wp2_with fail
  refine (H4.out _).mono ?_
  rintro e w1 ⟨rfl,rfl⟩
  go_wp2_with fail
  go_ret
  exact ⟨ret_bool (by simp),HB0.out⟩
 ·go_enter Tryz.func56,Tryz.ntmps56
  go_wp2_with fail
  refine (H1.out _).mono ?_
  rintro e w1 ⟨rfl,rfl⟩
  go_wp2_with fail
  refine (H2.out _).mono ?_
  rintro e w1 ⟨rfl,rfl⟩
  go_wp2_with fail
  refine (H3.out _).mono ?_
  rintro e w1 ⟨rfl,rfl⟩
  go_wp2_with fail
  refine (H4.out _).mono ?_
  rintro e w1 ⟨rfl,rfl⟩
  go_wp2_with fail
  refine (H5.out _).mono ?_
  rintro e w1 ⟨rfl,rfl⟩
  go_wp2_with fail
  go_ret
  exact ⟨ret_bool (by simp),HB0.out⟩
 ·go_enter Tryz.func56,Tryz.ntmps56
  go_wp2_with fail
  refine (H1.out _).mono ?_
  rintro e w1 ⟨rfl,rfl⟩
  go_wp2_with fail
  refine (H2.out _).mono ?_
  rintro e w1 ⟨rfl,rfl⟩
  go_wp2_with fail
  refine (H3.out _).mono ?_
  rintro e w1 ⟨rfl,rfl⟩
  go_wp2_with fail
  refine (H4.out _).mono ?_
  rintro e w1 ⟨rfl,rfl⟩
  go_wp2_with fail
  refine (H5.out _).mono ?_
  rintro e w1 ⟨rfl,rfl⟩
  go_wp2_with fail
  refine (H6.out _).mono ?_
  rintro e w1 ⟨rfl,rfl⟩
  go_wp2_with fail
  go_ret
  exact ⟨ret_bool (by simp),HB0.out⟩
 ·cases b7
  ·go_enter Tryz.func56,Tryz.ntmps56
   go_wp2_with fail
   refine (H1.out _).mono ?_
   rintro e w1 ⟨rfl,rfl⟩
   go_wp2_with fail
   refine (H2.out _).mono ?_
   rintro e w1 ⟨rfl,rfl⟩
   go_wp2_with fail
   refine (H3.out _).mono ?_
   rintro e w1 ⟨rfl,rfl⟩
   go_wp2_with fail
   refine (H4.out _).mono ?_
   rintro e w1 ⟨rfl,rfl⟩
   go_wp2_with fail
   refine (H5.out _).mono ?_
   rintro e w1 ⟨rfl,rfl⟩
   go_wp2_with fail
   refine (H6.out _).mono ?_
   rintro e w1 ⟨rfl,rfl⟩
   go_wp2_with fail
   refine (H7.out _ HB0.out).mono ?_
   rintro e w2 ⟨rfl,hb2⟩
   have HB2:=H_ (HB0.out.trans (hb2.mono HB0.out.size))
   clear hb2 HX0
   go_wp2_with fail
   go_ret
   exact ⟨ret_bool (by simp),HB2.out⟩
  ·rcases (show (¬1≤hl)∨(1≤hl∧¬hl≤12)∨(1≤hl∧hl≤12) by omega) with q|⟨q,q2⟩|⟨q,q2⟩
   ·have q':¬(1:Int)≤(hl:Int):=by omega
    rw [decide_eq_false (show ¬(1≤hl∧hl≤12) by omega)]
    go_enter Tryz.func56,Tryz.ntmps56
    go_wp2_with fail
    refine (H1.out _).mono ?_
    rintro e w1 ⟨rfl,rfl⟩
    go_wp2_with fail
    refine (H2.out _).mono ?_
    rintro e w1 ⟨rfl,rfl⟩
    go_wp2_with fail
    refine (H3.out _).mono ?_
    rintro e w1 ⟨rfl,rfl⟩
    go_wp2_with fail
    refine (H4.out _).mono ?_
    rintro e w1 ⟨rfl,rfl⟩
    go_wp2_with fail
    refine (H5.out _).mono ?_
    rintro e w1 ⟨rfl,rfl⟩
    go_wp2_with fail
    refine (H6.out _).mono ?_
    rintro e w1 ⟨rfl,rfl⟩
    go_wp2_with fail
    refine (H7.out _ HB0.out).mono ?_
    rintro e w2 ⟨rfl,hb2⟩
    have HB2:=H_ (HB0.out.trans (hb2.mono HB0.out.size))
    have HX2:=H_ (HX0.out.below hb2)
    clear hb2 HX0
    obtain ⟨xl,xc⟩:=HX2.out
    have y2:w2.cell? ⟨w.heap.size,2,none⟩=some (.int .i64 mo):=xc 2 (by simp)
    have y4:w2.cell? ⟨w.heap.size,4,none⟩=some (.int .i64 su):=xc 4 (by simp)
    have y7:w2.cell? ⟨w.heap.size,7,none⟩=some (.slice ha hl hc):=xc 7 (by simp)
    clear xc
    go_wp2_with fail
    go_ret
    exact ⟨ret_bool (by simp),HB2.out⟩
   ·have q':(1:Int)≤(hl:Int):=by omega
    have q2':¬(hl:Int)≤12:=by omega
    rw [decide_eq_false (show ¬(1≤hl∧hl≤12) by omega)]
    go_enter Tryz.func56,Tryz.ntmps56
    go_wp2_with fail
    refine (H1.out _).mono ?_
    rintro e w1 ⟨rfl,rfl⟩
    go_wp2_with fail
    refine (H2.out _).mono ?_
    rintro e w1 ⟨rfl,rfl⟩
    go_wp2_with fail
    refine (H3.out _).mono ?_
    rintro e w1 ⟨rfl,rfl⟩
    go_wp2_with fail
    refine (H4.out _).mono ?_
    rintro e w1 ⟨rfl,rfl⟩
    go_wp2_with fail
    refine (H5.out _).mono ?_
    rintro e w1 ⟨rfl,rfl⟩
    go_wp2_with fail
    refine (H6.out _).mono ?_
    rintro e w1 ⟨rfl,rfl⟩
    go_wp2_with fail
    refine (H7.out _ HB0.out).mono ?_
    rintro e w2 ⟨rfl,hb2⟩
    have HB2:=H_ (HB0.out.trans (hb2.mono HB0.out.size))
    have HX2:=H_ (HX0.out.below hb2)
    clear hb2 HX0
    obtain ⟨xl,xc⟩:=HX2.out
    have y2:w2.cell? ⟨w.heap.size,2,none⟩=some (.int .i64 mo):=xc 2 (by simp)
    have y4:w2.cell? ⟨w.heap.size,4,none⟩=some (.int .i64 su):=xc 4 (by simp)
    have y7:w2.cell? ⟨w.heap.size,7,none⟩=some (.slice ha hl hc):=xc 7 (by simp)
    clear xc
    go_wp2_with fail
    go_ret
    exact ⟨ret_bool (by simp),HB2.out⟩
   ·have q':(1:Int)≤(hl:Int):=by omega
    have q2':(hl:Int)≤12:=by omega
    rw [decide_eq_true (show 1≤hl∧hl≤12 by omega)]
    have H9:=H_ (H8.out rfl q2)
    go_enter Tryz.func56,Tryz.ntmps56
    go_wp2_with fail
    refine (H1.out _).mono ?_
    rintro e w1 ⟨rfl,rfl⟩
    go_wp2_with fail
    refine (H2.out _).mono ?_
    rintro e w1 ⟨rfl,rfl⟩
    go_wp2_with fail
    refine (H3.out _).mono ?_
    rintro e w1 ⟨rfl,rfl⟩
    go_wp2_with fail
    refine (H4.out _).mono ?_
    rintro e w1 ⟨rfl,rfl⟩
    go_wp2_with fail
    refine (H5.out _).mono ?_
    rintro e w1 ⟨rfl,rfl⟩
    go_wp2_with fail
    refine (H6.out _).mono ?_
    rintro e w1 ⟨rfl,rfl⟩
    go_wp2_with fail
    refine (H7.out _ HB0.out).mono ?_
    rintro e w2 ⟨rfl,hb2⟩
    have HB2:=H_ (HB0.out.trans (hb2.mono HB0.out.size))
    have HX2:=H_ (HX0.out.below hb2)
    clear hb2 HX0
    obtain ⟨xl,xc⟩:=HX2.out
    have y2:w2.cell? ⟨w.heap.size,2,none⟩=some (.int .i64 mo):=xc 2 (by simp)
    have y4:w2.cell? ⟨w.heap.size,4,none⟩=some (.int .i64 su):=xc 4 (by simp)
    have y7:w2.cell? ⟨w.heap.size,7,none⟩=some (.slice ha hl hc):=xc 7 (by simp)
    clear xc
    go_wp2_with fail
    refine (H9.out _ HB2.out).mono ?_
    rintro e w3 ⟨rfl,hb3⟩
    have HB3:=H_ (HB2.out.trans (hb3.mono HB2.out.size))
    clear hb3
    go_wp2_with fail
    go_ret
    exact ⟨ret_bool (by simp),HB3.out⟩
theorem spec_window_right (x:Wd) (ta:Option Addr) (tc:Nat) (ha:Option Addr) (hc:Nat) (w:World) (h1:x.a.size≤1048576) (h2:x.m.size≤1048576) (h3:x.ts.length≤1048576) (h4:∀t∈x.ts,t.size≤1048576) (hT:Tgs ta x.ts w) (hH:Hrs ha x.hs w) :
 Calls Tryz.prog 56 #[.agg (wcells x ta tc ha hc)] w fun e w'=>e=.returned (.bool (wB x))∧Below w.heap.size w w' :=
 sright_in x.a x.m x.mo x.ev x.su x.mx ta x.ts.length tc ha x.hs.length hc _ _ _ _ _ _ _ _ w (fun W=>NameR.spec_any x.a W h1) (fun W=>NameR.spec_any x.m W h2) (fun W=>sisMonth_any x.mo W) (fun W=>EvtR.is_any x.ev 1 1000 W) (fun W=>EvtR.is_any x.su 0 1000000000000 W) (fun W=>EvtR.is_any x.mx 0 x.su W) (fun W hW=>spec_tags ta tc x.ts W h3 h4 (hT.below hW)) (fun hs hl W hW=>spec_hours ha hc x.hs x.mo x.su W hl (of_decide_eq_true hs) (hH.below hW))
end WinR
end Go.Proofs.YtnceeaccbcfopaaGreatDoor
