/-
  What a right document is: both sides say the same. The condition: at most 1048576 lines, texts of at most 1048576 bytes.
-/
import Derived.Test.YtnceeaccbcfopaaGreatDoorT50
namespace Go.Proofs.YtnceeaccbcfopaaGreatDoor
open Go.ChangeShapes Go.WideShapes Go.ChangeAt Go.RowKit
set_option linter.unusedVariables false
namespace DocR
open LinR RowG LtR
open NameR (nameB)
open CatR (Blk Blk.new)
theorem inW (n low high:Int) (w:World):Calls Tryz.prog 30 #[.int .i64 n,.int .i64 low,.int .i64 high] w fun e w'=>e=.returned (.bool (decide (low≤n∧n≤high)))∧w'=w:=by
 rcases (show (¬low≤n)∨(low≤n∧¬n≤high)∨(low≤n∧n≤high) by omega) with h|⟨h1,h2⟩|⟨h1,h2⟩
 all_goals
  go_enter Tryz.func30,Tryz.ntmps30
  go_wp2
  go_ret
  exact ⟨ret_bool (by first|(simp [*];done)|(simp;omega)),rfl⟩
theorem isW (n low high:Int) (w:World):Calls Tryz.prog 63 #[.int .i64 n,.int .i64 low,.int .i64 high] w fun e w'=>e=.returned (.bool (decide (low≤n∧n≤high)))∧w'=w:=by
 rcases (show (¬low≤n)∨(low≤n∧¬n≤high)∨(low≤n∧n≤high) by omega) with h|⟨h1,h2⟩|⟨h1,h2⟩
 all_goals
  go_enter Tryz.func63,Tryz.ntmps63
  go_wp2
  go_ret
  exact ⟨ret_bool (by first|(simp [*];done)|(simp;omega)),rfl⟩
theorem iMon (n:Int) (w:World):Calls Tryz.prog 73 #[.int .i64 n] w fun e w'=>e=.returned (.bool (decide (0≤n∧n≤2760)))∧w'=w:=by
 have H:=inW n 0 2760
 generalize decide (0≤n∧n≤2760)=b at *
 go_enter Tryz.func73,Tryz.ntmps73
 go_wp2_with (go_at_call 30;refine (H _).mono ?_;rintro e w' ⟨rfl,rfl⟩)
 go_ret
 exact ⟨rfl,rfl⟩
theorem sMon (n:Int) (w:World):Calls Tryz.prog 55 #[.int .i64 n] w fun e w'=>e=.returned (.bool (decide (0≤n∧n≤2760)))∧w'=w:=by
 have H:=isW n 0 2760
 generalize decide (0≤n∧n≤2760)=b at *
 go_enter Tryz.func55,Tryz.ntmps55
 go_wp2_with (go_at_call 63;refine (H _).mono ?_;rintro e w' ⟨rfl,rfl⟩)
 go_ret
 exact ⟨rfl,rfl⟩
def dB (x:D):Bool:=nameB x.a&&(decide (0≤x.mo∧x.mo≤2760)&&(decide (0≤x.sq∧x.sq≤1000000)&&(sB x.ls&&(decide (x.sq=0)||decide (0<x.ls.length)))))
theorem five (b1 b2 b3 b4 b5 b6:Bool):(b1=false)∨(b1=true∧b2=false)∨(b1=true∧b2=true∧b3=false)∨(b1=true∧b2=true∧b3=true∧b4=false)∨(b1=true∧b2=true∧b3=true∧b4=true∧b5=true)∨(b1=true∧b2=true∧b3=true∧b4=true∧b5=false∧b6=true)∨(b1=true∧b2=true∧b3=true∧b4=true∧b5=false∧b6=false):=by
 cases b1<;>cases b2<;>cases b3<;>cases b4<;>cases b5<;>cases b6<;>simp
set_option maxRecDepth 100000 in
set_option maxHeartbeats 8000000 in
theorem iright_in (a:ByteArray) (mo sq:Int) (la:Option Addr) (ll lc:Nat) (b1 b2 b3 b4 b5 b6:Bool) (w:World) (hll:ll≤1048576)
 (h1:∀W,Calls Tryz.prog 166 #[.string a] W fun e w'=>e=.returned (.bool b1)∧w'=W)
 (h2:∀W,Calls Tryz.prog 73 #[.int .i64 mo] W fun e w'=>e=.returned (.bool b2)∧w'=W)
 (h3:∀W,Calls Tryz.prog 30 #[.int .i64 sq,.int .i64 0,.int .i64 1000000] W fun e w'=>e=.returned (.bool b3)∧w'=W)
 (h4:∀W,Below w.heap.size w W→Calls Tryz.prog 199 #[.slice la ll lc] W fun e w'=>e=.returned (.bool b4)∧Below W.heap.size W w') (h5:b5=decide (sq=0)) (h6:b6=decide (0<ll)) :
 Calls Tryz.prog 168 #[.agg #[.string a,.int .i64 mo,.int .i64 sq,.slice la ll lc]] w fun e w'=>e=.returned (.bool (b1&&(b2&&(b3&&(b4&&(b5||b6))))))∧Below w.heap.size w w':=by
 have H1:=H_ h1
 have H2:=H_ h2
 have H3:=H_ h3
 have H4:=H_ h4
 clear h1 h2 h3 h4
 have HB0:Hid (Below w.heap.size w (w.alloc (.cells #[.string a,.int .i64 mo,.int .i64 sq,.slice la ll lc] 122))):=H_ ((Below.refl _ _).alloc (Nat.le_refl _) _)
 have HX0:=H_ (Blk.new w [.string a,.int .i64 mo,.int .i64 sq,.slice la ll lc] 122)
 rcases five b1 b2 b3 b4 b5 b6 with rfl|⟨rfl,rfl⟩|⟨rfl,rfl,rfl⟩|⟨rfl,rfl,rfl,rfl⟩|⟨rfl,rfl,rfl,rfl,rfl⟩|⟨rfl,rfl,rfl,rfl,rfl,rfl⟩|⟨rfl,rfl,rfl,rfl,rfl,rfl⟩
 ·clear h5 h6
  go_enter Tryz.func168,Tryz.ntmps168
  go_wp2_with (go_at_call 166;refine (H1.out _).mono ?_;rintro e w1 ⟨rfl,rfl⟩)
  go_ret
  exact ⟨rfl,HB0.out⟩
 ·clear h5 h6
  go_enter Tryz.func168,Tryz.ntmps168
  go_wp2_with (first|(go_at_call 166;refine (H1.out _).mono ?_;rintro e w1 ⟨rfl,rfl⟩)|(go_at_call 73;refine (H2.out _).mono ?_;rintro e w1 ⟨rfl,rfl⟩)|(go_at_call 30;refine (H3.out _).mono ?_;rintro e w1 ⟨rfl,rfl⟩))
  go_ret
  exact ⟨rfl,HB0.out⟩
 ·clear h5 h6
  go_enter Tryz.func168,Tryz.ntmps168
  go_wp2_with (first|(go_at_call 166;refine (H1.out _).mono ?_;rintro e w1 ⟨rfl,rfl⟩)|(go_at_call 73;refine (H2.out _).mono ?_;rintro e w1 ⟨rfl,rfl⟩)|(go_at_call 30;refine (H3.out _).mono ?_;rintro e w1 ⟨rfl,rfl⟩))
  go_ret
  exact ⟨rfl,HB0.out⟩
 ·clear h5 h6
  go_enter Tryz.func168,Tryz.ntmps168
  go_wp2_with (first|(go_at_call 166;refine (H1.out _).mono ?_;rintro e w1 ⟨rfl,rfl⟩)|(go_at_call 73;refine (H2.out _).mono ?_;rintro e w1 ⟨rfl,rfl⟩)|(go_at_call 30;refine (H3.out _).mono ?_;rintro e w1 ⟨rfl,rfl⟩))
  refine (H4.out _ HB0.out).mono ?_
  rintro e w2 ⟨rfl,hb2⟩
  have HB2:=H_ (HB0.out.trans (hb2.mono HB0.out.size))
  obtain ⟨xl,xc⟩:=HX0.out.below hb2
  have p2:w2.cell? ⟨w.heap.size,2,none⟩=some (.int .i64 sq):=xc 2 (by simp)
  have p3:w2.cell? ⟨w.heap.size,3,none⟩=some (.slice la ll lc):=xc 3 (by simp)
  clear xc hb2
  go_wp2_with fail
  go_ret
  exact ⟨rfl,HB2.out⟩
 ·obtain rfl:sq=0:=of_decide_eq_true h5.symm
  clear h5 h6
  go_enter Tryz.func168,Tryz.ntmps168
  go_wp2_with (first|(go_at_call 166;refine (H1.out _).mono ?_;rintro e w1 ⟨rfl,rfl⟩)|(go_at_call 73;refine (H2.out _).mono ?_;rintro e w1 ⟨rfl,rfl⟩)|(go_at_call 30;refine (H3.out _).mono ?_;rintro e w1 ⟨rfl,rfl⟩))
  refine (H4.out _ HB0.out).mono ?_
  rintro e w2 ⟨rfl,hb2⟩
  have HB2:=H_ (HB0.out.trans (hb2.mono HB0.out.size))
  obtain ⟨xl,xc⟩:=HX0.out.below hb2
  have p2:w2.cell? ⟨w.heap.size,2,none⟩=some (.int .i64 0):=xc 2 (by simp)
  have p3:w2.cell? ⟨w.heap.size,3,none⟩=some (.slice la ll lc):=xc 3 (by simp)
  clear xc hb2
  go_wp2_with fail
  go_ret
  exact ⟨rfl,HB2.out⟩
 ·have q5:¬sq=0:=of_decide_eq_false h5.symm
  have q5':(sq==0)=false:=by simpa using q5
  have HQ:Hid (decide (0<ll)=true):=H_ h6.symm
  clear h5 h6
  go_enter Tryz.func168,Tryz.ntmps168
  go_wp2_with (first|(go_at_call 166;refine (H1.out _).mono ?_;rintro e w1 ⟨rfl,rfl⟩)|(go_at_call 73;refine (H2.out _).mono ?_;rintro e w1 ⟨rfl,rfl⟩)|(go_at_call 30;refine (H3.out _).mono ?_;rintro e w1 ⟨rfl,rfl⟩))
  refine (H4.out _ HB0.out).mono ?_
  rintro e w2 ⟨rfl,hb2⟩
  have HB2:=H_ (HB0.out.trans (hb2.mono HB0.out.size))
  obtain ⟨xl,xc⟩:=HX0.out.below hb2
  have p2:w2.cell? ⟨w.heap.size,2,none⟩=some (.int .i64 sq):=xc 2 (by simp)
  have p3:w2.cell? ⟨w.heap.size,3,none⟩=some (.slice la ll lc):=xc 3 (by simp)
  clear xc hb2
  go_wp2_with fail
  go_ret
  exact ⟨ret_bool HQ.out,HB2.out⟩
 ·have q5:¬sq=0:=of_decide_eq_false h5.symm
  have q5':(sq==0)=false:=by simpa using q5
  have HQ:Hid (decide (0<ll)=false):=H_ h6.symm
  clear h5 h6
  go_enter Tryz.func168,Tryz.ntmps168
  go_wp2_with (first|(go_at_call 166;refine (H1.out _).mono ?_;rintro e w1 ⟨rfl,rfl⟩)|(go_at_call 73;refine (H2.out _).mono ?_;rintro e w1 ⟨rfl,rfl⟩)|(go_at_call 30;refine (H3.out _).mono ?_;rintro e w1 ⟨rfl,rfl⟩))
  refine (H4.out _ HB0.out).mono ?_
  rintro e w2 ⟨rfl,hb2⟩
  have HB2:=H_ (HB0.out.trans (hb2.mono HB0.out.size))
  obtain ⟨xl,xc⟩:=HX0.out.below hb2
  have p2:w2.cell? ⟨w.heap.size,2,none⟩=some (.int .i64 sq):=xc 2 (by simp)
  have p3:w2.cell? ⟨w.heap.size,3,none⟩=some (.slice la ll lc):=xc 3 (by simp)
  clear xc hb2
  go_wp2_with fail
  go_ret
  exact ⟨ret_bool HQ.out,HB2.out⟩
set_option maxRecDepth 100000 in
set_option maxHeartbeats 8000000 in
theorem sright_in (a:ByteArray) (mo sq:Int) (la:Option Addr) (ll lc:Nat) (b1 b2 b3 b4 b5 b6:Bool) (w:World) (hll:ll≤1048576)
 (h1:∀W,Calls Tryz.prog 104 #[.string a] W fun e w'=>e=.returned (.bool b1)∧w'=W)
 (h2:∀W,Calls Tryz.prog 55 #[.int .i64 mo] W fun e w'=>e=.returned (.bool b2)∧w'=W)
 (h3:∀W,Calls Tryz.prog 63 #[.int .i64 sq,.int .i64 0,.int .i64 1000000] W fun e w'=>e=.returned (.bool b3)∧w'=W)
 (h4:∀W,Below w.heap.size w W→Calls Tryz.prog 152 #[.slice la ll lc] W fun e w'=>e=.returned (.bool b4)∧Below W.heap.size W w') (h5:b5=decide (sq=0)) (h6:b6=decide (0<ll)) :
 Calls Tryz.prog 106 #[.agg #[.string a,.int .i64 mo,.int .i64 sq,.slice la ll lc]] w fun e w'=>e=.returned (.bool (b1&&(b2&&(b3&&(b4&&(b5||b6))))))∧Below w.heap.size w w':=by
 have H1:=H_ h1
 have H2:=H_ h2
 have H3:=H_ h3
 have H4:=H_ h4
 clear h1 h2 h3 h4
 have HB0:Hid (Below w.heap.size w (w.alloc (.cells #[.string a,.int .i64 mo,.int .i64 sq,.slice la ll lc] 122))):=H_ ((Below.refl _ _).alloc (Nat.le_refl _) _)
 have HX0:=H_ (Blk.new w [.string a,.int .i64 mo,.int .i64 sq,.slice la ll lc] 122)
 rcases five b1 b2 b3 b4 b5 b6 with rfl|⟨rfl,rfl⟩|⟨rfl,rfl,rfl⟩|⟨rfl,rfl,rfl,rfl⟩|⟨rfl,rfl,rfl,rfl,rfl⟩|⟨rfl,rfl,rfl,rfl,rfl,rfl⟩|⟨rfl,rfl,rfl,rfl,rfl,rfl⟩
 ·clear h5 h6
  go_enter Tryz.func106,Tryz.ntmps106
  go_wp2_with (go_at_call 104;refine (H1.out _).mono ?_;rintro e w1 ⟨rfl,rfl⟩)
  go_ret
  exact ⟨rfl,HB0.out⟩
 ·clear h5 h6
  go_enter Tryz.func106,Tryz.ntmps106
  go_wp2_with (first|(go_at_call 104;refine (H1.out _).mono ?_;rintro e w1 ⟨rfl,rfl⟩)|(go_at_call 55;refine (H2.out _).mono ?_;rintro e w1 ⟨rfl,rfl⟩)|(go_at_call 63;refine (H3.out _).mono ?_;rintro e w1 ⟨rfl,rfl⟩))
  go_ret
  exact ⟨rfl,HB0.out⟩
 ·clear h5 h6
  go_enter Tryz.func106,Tryz.ntmps106
  go_wp2_with (first|(go_at_call 104;refine (H1.out _).mono ?_;rintro e w1 ⟨rfl,rfl⟩)|(go_at_call 55;refine (H2.out _).mono ?_;rintro e w1 ⟨rfl,rfl⟩)|(go_at_call 63;refine (H3.out _).mono ?_;rintro e w1 ⟨rfl,rfl⟩))
  go_ret
  exact ⟨rfl,HB0.out⟩
 ·clear h5 h6
  go_enter Tryz.func106,Tryz.ntmps106
  go_wp2_with (first|(go_at_call 104;refine (H1.out _).mono ?_;rintro e w1 ⟨rfl,rfl⟩)|(go_at_call 55;refine (H2.out _).mono ?_;rintro e w1 ⟨rfl,rfl⟩)|(go_at_call 63;refine (H3.out _).mono ?_;rintro e w1 ⟨rfl,rfl⟩))
  refine (H4.out _ HB0.out).mono ?_
  rintro e w2 ⟨rfl,hb2⟩
  have HB2:=H_ (HB0.out.trans (hb2.mono HB0.out.size))
  obtain ⟨xl,xc⟩:=HX0.out.below hb2
  have p2:w2.cell? ⟨w.heap.size,2,none⟩=some (.int .i64 sq):=xc 2 (by simp)
  have p3:w2.cell? ⟨w.heap.size,3,none⟩=some (.slice la ll lc):=xc 3 (by simp)
  clear xc hb2
  go_wp2_with fail
  go_ret
  exact ⟨rfl,HB2.out⟩
 ·obtain rfl:sq=0:=of_decide_eq_true h5.symm
  clear h5 h6
  go_enter Tryz.func106,Tryz.ntmps106
  go_wp2_with (first|(go_at_call 104;refine (H1.out _).mono ?_;rintro e w1 ⟨rfl,rfl⟩)|(go_at_call 55;refine (H2.out _).mono ?_;rintro e w1 ⟨rfl,rfl⟩)|(go_at_call 63;refine (H3.out _).mono ?_;rintro e w1 ⟨rfl,rfl⟩))
  refine (H4.out _ HB0.out).mono ?_
  rintro e w2 ⟨rfl,hb2⟩
  have HB2:=H_ (HB0.out.trans (hb2.mono HB0.out.size))
  obtain ⟨xl,xc⟩:=HX0.out.below hb2
  have p2:w2.cell? ⟨w.heap.size,2,none⟩=some (.int .i64 0):=xc 2 (by simp)
  have p3:w2.cell? ⟨w.heap.size,3,none⟩=some (.slice la ll lc):=xc 3 (by simp)
  clear xc hb2
  go_wp2_with fail
  go_ret
  exact ⟨rfl,HB2.out⟩
 ·have q5:¬sq=0:=of_decide_eq_false h5.symm
  have q5':(sq==0)=false:=by simpa using q5
  have HQ:Hid (decide (0<ll)=true):=H_ h6.symm
  clear h5 h6
  go_enter Tryz.func106,Tryz.ntmps106
  go_wp2_with (first|(go_at_call 104;refine (H1.out _).mono ?_;rintro e w1 ⟨rfl,rfl⟩)|(go_at_call 55;refine (H2.out _).mono ?_;rintro e w1 ⟨rfl,rfl⟩)|(go_at_call 63;refine (H3.out _).mono ?_;rintro e w1 ⟨rfl,rfl⟩))
  refine (H4.out _ HB0.out).mono ?_
  rintro e w2 ⟨rfl,hb2⟩
  have HB2:=H_ (HB0.out.trans (hb2.mono HB0.out.size))
  obtain ⟨xl,xc⟩:=HX0.out.below hb2
  have p2:w2.cell? ⟨w.heap.size,2,none⟩=some (.int .i64 sq):=xc 2 (by simp)
  have p3:w2.cell? ⟨w.heap.size,3,none⟩=some (.slice la ll lc):=xc 3 (by simp)
  clear xc hb2
  go_wp2_with fail
  go_ret
  exact ⟨ret_bool HQ.out,HB2.out⟩
 ·have q5:¬sq=0:=of_decide_eq_false h5.symm
  have q5':(sq==0)=false:=by simpa using q5
  have HQ:Hid (decide (0<ll)=false):=H_ h6.symm
  clear h5 h6
  go_enter Tryz.func106,Tryz.ntmps106
  go_wp2_with (first|(go_at_call 104;refine (H1.out _).mono ?_;rintro e w1 ⟨rfl,rfl⟩)|(go_at_call 55;refine (H2.out _).mono ?_;rintro e w1 ⟨rfl,rfl⟩)|(go_at_call 63;refine (H3.out _).mono ?_;rintro e w1 ⟨rfl,rfl⟩))
  refine (H4.out _ HB0.out).mono ?_
  rintro e w2 ⟨rfl,hb2⟩
  have HB2:=H_ (HB0.out.trans (hb2.mono HB0.out.size))
  obtain ⟨xl,xc⟩:=HX0.out.below hb2
  have p2:w2.cell? ⟨w.heap.size,2,none⟩=some (.int .i64 sq):=xc 2 (by simp)
  have p3:w2.cell? ⟨w.heap.size,3,none⟩=some (.slice la ll lc):=xc 3 (by simp)
  clear xc hb2
  go_wp2_with fail
  go_ret
  exact ⟨ret_bool HQ.out,HB2.out⟩
theorem impl_doc (x:D) (la:Option Addr) (lc:Nat) (w:World) (h:x.Sm) (hL:Lis la x.ls w):Calls Tryz.prog 168 #[.agg (dcells x la lc)] w fun e w'=>e=.returned (.bool (dB x))∧Below w.heap.size w w' :=
 iright_in x.a x.mo x.sq la x.ls.length lc _ _ _ _ _ _ w h.2.1 (fun W=>NameR.impl_any x.a W h.1) (fun W=>iMon x.mo W) (fun W=>inW x.sq 0 1000000 W) (fun W hW=>impl_lines la lc x.ls W h.2.1 h.2.2 (hL.below hW)) rfl rfl
theorem spec_doc (x:D) (la:Option Addr) (lc:Nat) (w:World) (h:x.Sm) (hL:Lis la x.ls w):Calls Tryz.prog 106 #[.agg (dcells x la lc)] w fun e w'=>e=.returned (.bool (dB x))∧Below w.heap.size w w' :=
 sright_in x.a x.mo x.sq la x.ls.length lc _ _ _ _ _ _ w h.2.1 (fun W=>NameR.spec_any x.a W h.1) (fun W=>sMon x.mo W) (fun W=>isW x.sq 0 1000000 W) (fun W hW=>spec_lines la lc x.ls W h.2.1 h.2.2 (hL.below hW)) rfl rfl
end DocR
end Go.Proofs.YtnceeaccbcfopaaGreatDoor
