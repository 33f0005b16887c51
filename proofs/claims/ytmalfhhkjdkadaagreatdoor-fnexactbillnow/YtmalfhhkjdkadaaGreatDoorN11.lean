/-
  What a right document is: both sides say the same. The condition: at most 1048576 lines, texts of at most 1048576 bytes.
  A document that came in, read as rows. No condition.
  Engines, and answers with engines, held against each other: put together of what their parts promise; and lists of sources. The condition: at most 1048576 sources.
  Worlds that differ in some blocks alone. No condition.
  What lies in blocks from a number on is as it was. No condition.
  Catalogs and windows that a copy has made are kept by stores at blocks from a base on. No condition.
  What a list of entries that the law does not pass by is like. No condition.
  A region that draws its order, in a class of worlds that all hold some facts: one walk of the order of the text serves. No condition.
  Leap years, and the days of the week: either side tells the same. No condition.
  The days of a month, and whether a date is right: either side tells the same. The condition: the program's table stands in its variable.
-/
import Derived.BigQuiet
import Derived.Deep.QuietTactic
import Derived.Deep.RegionHeld3
import Derived.Deep.DrawnRows
import Derived.Test.YtmalfhhkjdkadaaGreatDoorN10
namespace Go.Proofs.YtmalfhhkjdkadaaGreatDoor
open Go.ChangeShapes Go.WideShapes Go.ChangeAt Go.RowKit
set_option linter.unusedVariables false
namespace DocR
open LinR RowG LtR
open NameR (nameB)
open CatR (Blk Blk.new)
theorem inW (n low high:Int) (w:World):Calls Tryz.prog 118 #[.int .i64 n,.int .i64 low,.int .i64 high] w fun e w'=>e=.returned (.bool (decide (low≤n∧n≤high)))∧w'=w:=by
 rcases (show (¬low≤n)∨(low≤n∧¬n≤high)∨(low≤n∧n≤high) by omega) with h|⟨h1,h2⟩|⟨h1,h2⟩
 all_goals
  go_enter Tryz.func118,Tryz.ntmps118
  go_wp2
  go_ret
  exact ⟨ret_bool (by first|(simp [*];done)|(simp;omega)),rfl⟩
theorem isW (n low high:Int) (w:World):Calls Tryz.prog 95 #[.int .i64 n,.int .i64 low,.int .i64 high] w fun e w'=>e=.returned (.bool (decide (low≤n∧n≤high)))∧w'=w:=by
 rcases (show (¬low≤n)∨(low≤n∧¬n≤high)∨(low≤n∧n≤high) by omega) with h|⟨h1,h2⟩|⟨h1,h2⟩
 all_goals
  go_enter Tryz.func95,Tryz.ntmps95
  go_wp2
  go_ret
  exact ⟨ret_bool (by first|(simp [*];done)|(simp;omega)),rfl⟩
theorem iMon (n:Int) (w:World):Calls Tryz.prog 72 #[.int .i64 n] w fun e w'=>e=.returned (.bool (decide (0≤n∧n≤2760)))∧w'=w:=by
 have H:=inW n 0 2760
 generalize decide (0≤n∧n≤2760)=b at *
 go_enter Tryz.func72,Tryz.ntmps72
 go_wp2_with (go_at_call 118;refine (H _).mono ?_;rintro e w' ⟨rfl,rfl⟩)
 go_ret
 exact ⟨rfl,rfl⟩
theorem sMon (n:Int) (w:World):Calls Tryz.prog 53 #[.int .i64 n] w fun e w'=>e=.returned (.bool (decide (0≤n∧n≤2760)))∧w'=w:=by
 have H:=isW n 0 2760
 generalize decide (0≤n∧n≤2760)=b at *
 go_enter Tryz.func53,Tryz.ntmps53
 go_wp2_with (go_at_call 95;refine (H _).mono ?_;rintro e w' ⟨rfl,rfl⟩)
 go_ret
 exact ⟨rfl,rfl⟩
def dB (x:D):Bool:=nameB x.a&&(decide (0≤x.mo∧x.mo≤2760)&&(decide (0≤x.sq∧x.sq≤1000000)&&(sB x.ls&&(decide (x.sq=0)||decide (0<x.ls.length)))))
theorem five (b1 b2 b3 b4 b5 b6:Bool):(b1=false)∨(b1=true∧b2=false)∨(b1=true∧b2=true∧b3=false)∨(b1=true∧b2=true∧b3=true∧b4=false)∨(b1=true∧b2=true∧b3=true∧b4=true∧b5=true)∨(b1=true∧b2=true∧b3=true∧b4=true∧b5=false∧b6=true)∨(b1=true∧b2=true∧b3=true∧b4=true∧b5=false∧b6=false):=by
 cases b1<;>cases b2<;>cases b3<;>cases b4<;>cases b5<;>cases b6<;>simp
set_option maxRecDepth 100000 in
set_option maxHeartbeats 8000000 in
theorem iright_in (a:ByteArray) (mo sq:Int) (la:Option Addr) (ll lc:Nat) (b1 b2 b3 b4 b5 b6:Bool) (w:World) (hll:ll≤1048576)
 (h1:∀W,Calls Tryz.prog 126 #[.string a] W fun e w'=>e=.returned (.bool b1)∧w'=W)
 (h2:∀W,Calls Tryz.prog 72 #[.int .i64 mo] W fun e w'=>e=.returned (.bool b2)∧w'=W)
 (h3:∀W,Calls Tryz.prog 118 #[.int .i64 sq,.int .i64 0,.int .i64 1000000] W fun e w'=>e=.returned (.bool b3)∧w'=W)
 (h4:∀W,Below w.heap.size w W→Calls Tryz.prog 178 #[.slice la ll lc] W fun e w'=>e=.returned (.bool b4)∧Below W.heap.size W w') (h5:b5=decide (sq=0)) (h6:b6=decide (0<ll)) :
 Calls Tryz.prog 157 #[.agg #[.string a,.int .i64 mo,.int .i64 sq,.slice la ll lc]] w fun e w'=>e=.returned (.bool (b1&&(b2&&(b3&&(b4&&(b5||b6))))))∧Below w.heap.size w w':=by
 have H1:=hid_intro h1
 have H2:=hid_intro h2
 have H3:=hid_intro h3
 have H4:=hid_intro h4
 clear h1 h2 h3 h4
 have HB0:Hid (Below w.heap.size w (w.alloc (.cells #[.string a,.int .i64 mo,.int .i64 sq,.slice la ll lc] 133))):=hid_intro ((Below.refl _ _).alloc (Nat.le_refl _) _)
 have HX0:=hid_intro (Blk.new w [.string a,.int .i64 mo,.int .i64 sq,.slice la ll lc] 133)
 rcases five b1 b2 b3 b4 b5 b6 with rfl|⟨rfl,rfl⟩|⟨rfl,rfl,rfl⟩|⟨rfl,rfl,rfl,rfl⟩|⟨rfl,rfl,rfl,rfl,rfl⟩|⟨rfl,rfl,rfl,rfl,rfl,rfl⟩|⟨rfl,rfl,rfl,rfl,rfl,rfl⟩
 ·clear h5 h6
  go_enter Tryz.func157,Tryz.ntmps157
  go_wp2_with (go_at_call 126;refine (H1.out _).mono ?_;rintro e w1 ⟨rfl,rfl⟩)
  go_ret
  exact ⟨rfl,HB0.out⟩
 ·clear h5 h6
  go_enter Tryz.func157,Tryz.ntmps157
  go_wp2_with (first|(go_at_call 126;refine (H1.out _).mono ?_;rintro e w1 ⟨rfl,rfl⟩)|(go_at_call 72;refine (H2.out _).mono ?_;rintro e w1 ⟨rfl,rfl⟩)|(go_at_call 118;refine (H3.out _).mono ?_;rintro e w1 ⟨rfl,rfl⟩))
  go_ret
  exact ⟨rfl,HB0.out⟩
 ·clear h5 h6
  go_enter Tryz.func157,Tryz.ntmps157
  go_wp2_with (first|(go_at_call 126;refine (H1.out _).mono ?_;rintro e w1 ⟨rfl,rfl⟩)|(go_at_call 72;refine (H2.out _).mono ?_;rintro e w1 ⟨rfl,rfl⟩)|(go_at_call 118;refine (H3.out _).mono ?_;rintro e w1 ⟨rfl,rfl⟩))
  go_ret
  exact ⟨rfl,HB0.out⟩
 ·clear h5 h6
  go_enter Tryz.func157,Tryz.ntmps157
  go_wp2_with (first|(go_at_call 126;refine (H1.out _).mono ?_;rintro e w1 ⟨rfl,rfl⟩)|(go_at_call 72;refine (H2.out _).mono ?_;rintro e w1 ⟨rfl,rfl⟩)|(go_at_call 118;refine (H3.out _).mono ?_;rintro e w1 ⟨rfl,rfl⟩))
  refine (H4.out _ HB0.out).mono ?_
  rintro e w2 ⟨rfl,hb2⟩
  have HB2:=hid_intro (HB0.out.trans (hb2.mono HB0.out.size))
  obtain ⟨xl,xc⟩:=HX0.out.below hb2
  have p2:w2.cell? ⟨w.heap.size,2,none⟩=some (.int .i64 sq):=xc 2 (by simp)
  have p3:w2.cell? ⟨w.heap.size,3,none⟩=some (.slice la ll lc):=xc 3 (by simp)
  clear xc hb2
  go_wp2_with fail
  go_ret
  exact ⟨rfl,HB2.out⟩
 ·obtain rfl:sq=0:=of_decide_eq_true h5.symm
  clear h5 h6
  go_enter Tryz.func157,Tryz.ntmps157
  go_wp2_with (first|(go_at_call 126;refine (H1.out _).mono ?_;rintro e w1 ⟨rfl,rfl⟩)|(go_at_call 72;refine (H2.out _).mono ?_;rintro e w1 ⟨rfl,rfl⟩)|(go_at_call 118;refine (H3.out _).mono ?_;rintro e w1 ⟨rfl,rfl⟩))
  refine (H4.out _ HB0.out).mono ?_
  rintro e w2 ⟨rfl,hb2⟩
  have HB2:=hid_intro (HB0.out.trans (hb2.mono HB0.out.size))
  obtain ⟨xl,xc⟩:=HX0.out.below hb2
  have p2:w2.cell? ⟨w.heap.size,2,none⟩=some (.int .i64 0):=xc 2 (by simp)
  have p3:w2.cell? ⟨w.heap.size,3,none⟩=some (.slice la ll lc):=xc 3 (by simp)
  clear xc hb2
  go_wp2_with fail
  go_ret
  exact ⟨rfl,HB2.out⟩
 ·have q5:¬sq=0:=of_decide_eq_false h5.symm
  have q5':(sq==0)=false:=by simpa using q5
  have HQ:Hid (decide (0<ll)=true):=hid_intro h6.symm
  clear h5 h6
  go_enter Tryz.func157,Tryz.ntmps157
  go_wp2_with (first|(go_at_call 126;refine (H1.out _).mono ?_;rintro e w1 ⟨rfl,rfl⟩)|(go_at_call 72;refine (H2.out _).mono ?_;rintro e w1 ⟨rfl,rfl⟩)|(go_at_call 118;refine (H3.out _).mono ?_;rintro e w1 ⟨rfl,rfl⟩))
  refine (H4.out _ HB0.out).mono ?_
  rintro e w2 ⟨rfl,hb2⟩
  have HB2:=hid_intro (HB0.out.trans (hb2.mono HB0.out.size))
  obtain ⟨xl,xc⟩:=HX0.out.below hb2
  have p2:w2.cell? ⟨w.heap.size,2,none⟩=some (.int .i64 sq):=xc 2 (by simp)
  have p3:w2.cell? ⟨w.heap.size,3,none⟩=some (.slice la ll lc):=xc 3 (by simp)
  clear xc hb2
  go_wp2_with fail
  go_ret
  exact ⟨ret_bool HQ.out,HB2.out⟩
 ·have q5:¬sq=0:=of_decide_eq_false h5.symm
  have q5':(sq==0)=false:=by simpa using q5
  have HQ:Hid (decide (0<ll)=false):=hid_intro h6.symm
  clear h5 h6
  go_enter Tryz.func157,Tryz.ntmps157
  go_wp2_with (first|(go_at_call 126;refine (H1.out _).mono ?_;rintro e w1 ⟨rfl,rfl⟩)|(go_at_call 72;refine (H2.out _).mono ?_;rintro e w1 ⟨rfl,rfl⟩)|(go_at_call 118;refine (H3.out _).mono ?_;rintro e w1 ⟨rfl,rfl⟩))
  refine (H4.out _ HB0.out).mono ?_
  rintro e w2 ⟨rfl,hb2⟩
  have HB2:=hid_intro (HB0.out.trans (hb2.mono HB0.out.size))
  obtain ⟨xl,xc⟩:=HX0.out.below hb2
  have p2:w2.cell? ⟨w.heap.size,2,none⟩=some (.int .i64 sq):=xc 2 (by simp)
  have p3:w2.cell? ⟨w.heap.size,3,none⟩=some (.slice la ll lc):=xc 3 (by simp)
  clear xc hb2
  go_wp2_with fail
  go_ret
  exact ⟨ret_bool HQ.out,HB2.out⟩
set_option maxRecDepth 100000 in
set_option maxHeartbeats 8000000 in
theorem sright_in (a:ByteArray) (mo sq:Int) (la:Option Addr) (ll lc:Nat) (b1 b2 b3 b4 b5 b6:Bool) (w:World) (hll:ll≤1048576)
 (h1:∀W,Calls Tryz.prog 20 #[.string a] W fun e w'=>e=.returned (.bool b1)∧w'=W)
 (h2:∀W,Calls Tryz.prog 53 #[.int .i64 mo] W fun e w'=>e=.returned (.bool b2)∧w'=W)
 (h3:∀W,Calls Tryz.prog 95 #[.int .i64 sq,.int .i64 0,.int .i64 1000000] W fun e w'=>e=.returned (.bool b3)∧w'=W)
 (h4:∀W,Below w.heap.size w W→Calls Tryz.prog 141 #[.slice la ll lc] W fun e w'=>e=.returned (.bool b4)∧Below W.heap.size W w') (h5:b5=decide (sq=0)) (h6:b6=decide (0<ll)) :
 Calls Tryz.prog 98 #[.agg #[.string a,.int .i64 mo,.int .i64 sq,.slice la ll lc]] w fun e w'=>e=.returned (.bool (b1&&(b2&&(b3&&(b4&&(b5||b6))))))∧Below w.heap.size w w':=by
 have H1:=hid_intro h1
 have H2:=hid_intro h2
 have H3:=hid_intro h3
 have H4:=hid_intro h4
 clear h1 h2 h3 h4
 have HB0:Hid (Below w.heap.size w (w.alloc (.cells #[.string a,.int .i64 mo,.int .i64 sq,.slice la ll lc] 133))):=hid_intro ((Below.refl _ _).alloc (Nat.le_refl _) _)
 have HX0:=hid_intro (Blk.new w [.string a,.int .i64 mo,.int .i64 sq,.slice la ll lc] 133)
 rcases five b1 b2 b3 b4 b5 b6 with rfl|⟨rfl,rfl⟩|⟨rfl,rfl,rfl⟩|⟨rfl,rfl,rfl,rfl⟩|⟨rfl,rfl,rfl,rfl,rfl⟩|⟨rfl,rfl,rfl,rfl,rfl,rfl⟩|⟨rfl,rfl,rfl,rfl,rfl,rfl⟩
 ·clear h5 h6
  go_enter Tryz.func98,Tryz.ntmps98
  go_wp2_with (go_at_call 20;refine (H1.out _).mono ?_;rintro e w1 ⟨rfl,rfl⟩)
  go_ret
  exact ⟨rfl,HB0.out⟩
 ·clear h5 h6
  go_enter Tryz.func98,Tryz.ntmps98
  go_wp2_with (first|(go_at_call 20;refine (H1.out _).mono ?_;rintro e w1 ⟨rfl,rfl⟩)|(go_at_call 53;refine (H2.out _).mono ?_;rintro e w1 ⟨rfl,rfl⟩)|(go_at_call 95;refine (H3.out _).mono ?_;rintro e w1 ⟨rfl,rfl⟩))
  go_ret
  exact ⟨rfl,HB0.out⟩
 ·clear h5 h6
  go_enter Tryz.func98,Tryz.ntmps98
  go_wp2_with (first|(go_at_call 20;refine (H1.out _).mono ?_;rintro e w1 ⟨rfl,rfl⟩)|(go_at_call 53;refine (H2.out _).mono ?_;rintro e w1 ⟨rfl,rfl⟩)|(go_at_call 95;refine (H3.out _).mono ?_;rintro e w1 ⟨rfl,rfl⟩))
  go_ret
  exact ⟨rfl,HB0.out⟩
 ·clear h5 h6
  go_enter Tryz.func98,Tryz.ntmps98
  go_wp2_with (first|(go_at_call 20;refine (H1.out _).mono ?_;rintro e w1 ⟨rfl,rfl⟩)|(go_at_call 53;refine (H2.out _).mono ?_;rintro e w1 ⟨rfl,rfl⟩)|(go_at_call 95;refine (H3.out _).mono ?_;rintro e w1 ⟨rfl,rfl⟩))
  refine (H4.out _ HB0.out).mono ?_
  rintro e w2 ⟨rfl,hb2⟩
  have HB2:=hid_intro (HB0.out.trans (hb2.mono HB0.out.size))
  obtain ⟨xl,xc⟩:=HX0.out.below hb2
  have p2:w2.cell? ⟨w.heap.size,2,none⟩=some (.int .i64 sq):=xc 2 (by simp)
  have p3:w2.cell? ⟨w.heap.size,3,none⟩=some (.slice la ll lc):=xc 3 (by simp)
  clear xc hb2
  go_wp2_with fail
  go_ret
  exact ⟨rfl,HB2.out⟩
 ·obtain rfl:sq=0:=of_decide_eq_true h5.symm
  clear h5 h6
  go_enter Tryz.func98,Tryz.ntmps98
  go_wp2_with (first|(go_at_call 20;refine (H1.out _).mono ?_;rintro e w1 ⟨rfl,rfl⟩)|(go_at_call 53;refine (H2.out _).mono ?_;rintro e w1 ⟨rfl,rfl⟩)|(go_at_call 95;refine (H3.out _).mono ?_;rintro e w1 ⟨rfl,rfl⟩))
  refine (H4.out _ HB0.out).mono ?_
  rintro e w2 ⟨rfl,hb2⟩
  have HB2:=hid_intro (HB0.out.trans (hb2.mono HB0.out.size))
  obtain ⟨xl,xc⟩:=HX0.out.below hb2
  have p2:w2.cell? ⟨w.heap.size,2,none⟩=some (.int .i64 0):=xc 2 (by simp)
  have p3:w2.cell? ⟨w.heap.size,3,none⟩=some (.slice la ll lc):=xc 3 (by simp)
  clear xc hb2
  go_wp2_with fail
  go_ret
  exact ⟨rfl,HB2.out⟩
 ·have q5:¬sq=0:=of_decide_eq_false h5.symm
  have q5':(sq==0)=false:=by simpa using q5
  have HQ:Hid (decide (0<ll)=true):=hid_intro h6.symm
  clear h5 h6
  go_enter Tryz.func98,Tryz.ntmps98
  go_wp2_with (first|(go_at_call 20;refine (H1.out _).mono ?_;rintro e w1 ⟨rfl,rfl⟩)|(go_at_call 53;refine (H2.out _).mono ?_;rintro e w1 ⟨rfl,rfl⟩)|(go_at_call 95;refine (H3.out _).mono ?_;rintro e w1 ⟨rfl,rfl⟩))
  refine (H4.out _ HB0.out).mono ?_
  rintro e w2 ⟨rfl,hb2⟩
  have HB2:=hid_intro (HB0.out.trans (hb2.mono HB0.out.size))
  obtain ⟨xl,xc⟩:=HX0.out.below hb2
  have p2:w2.cell? ⟨w.heap.size,2,none⟩=some (.int .i64 sq):=xc 2 (by simp)
  have p3:w2.cell? ⟨w.heap.size,3,none⟩=some (.slice la ll lc):=xc 3 (by simp)
  clear xc hb2
  go_wp2_with fail
  go_ret
  exact ⟨ret_bool HQ.out,HB2.out⟩
 ·have q5:¬sq=0:=of_decide_eq_false h5.symm
  have q5':(sq==0)=false:=by simpa using q5
  have HQ:Hid (decide (0<ll)=false):=hid_intro h6.symm
  clear h5 h6
  go_enter Tryz.func98,Tryz.ntmps98
  go_wp2_with (first|(go_at_call 20;refine (H1.out _).mono ?_;rintro e w1 ⟨rfl,rfl⟩)|(go_at_call 53;refine (H2.out _).mono ?_;rintro e w1 ⟨rfl,rfl⟩)|(go_at_call 95;refine (H3.out _).mono ?_;rintro e w1 ⟨rfl,rfl⟩))
  refine (H4.out _ HB0.out).mono ?_
  rintro e w2 ⟨rfl,hb2⟩
  have HB2:=hid_intro (HB0.out.trans (hb2.mono HB0.out.size))
  obtain ⟨xl,xc⟩:=HX0.out.below hb2
  have p2:w2.cell? ⟨w.heap.size,2,none⟩=some (.int .i64 sq):=xc 2 (by simp)
  have p3:w2.cell? ⟨w.heap.size,3,none⟩=some (.slice la ll lc):=xc 3 (by simp)
  clear xc hb2
  go_wp2_with fail
  go_ret
  exact ⟨ret_bool HQ.out,HB2.out⟩
theorem impl_doc (x:D) (la:Option Addr) (lc:Nat) (w:World) (h:x.Sm) (hL:Lis la x.ls w):Calls Tryz.prog 157 #[.agg (dcells x la lc)] w fun e w'=>e=.returned (.bool (dB x))∧Below w.heap.size w w' :=
 iright_in x.a x.mo x.sq la x.ls.length lc _ _ _ _ _ _ w h.2.1 (fun W=>NameR.impl_any x.a W h.1) (fun W=>iMon x.mo W) (fun W=>inW x.sq 0 1000000 W) (fun W hW=>impl_lines la lc x.ls W h.2.1 h.2.2 (hL.below hW)) rfl rfl
theorem spec_doc (x:D) (la:Option Addr) (lc:Nat) (w:World) (h:x.Sm) (hL:Lis la x.ls w):Calls Tryz.prog 98 #[.agg (dcells x la lc)] w fun e w'=>e=.returned (.bool (dB x))∧Below w.heap.size w w' :=
 sright_in x.a x.mo x.sq la x.ls.length lc _ _ _ _ _ _ w h.2.1 (fun W=>NameR.spec_any x.a W h.1) (fun W=>sMon x.mo W) (fun W=>isW x.sq 0 1000000 W) (fun W hW=>spec_lines la lc x.ls W h.2.1 h.2.2 (hL.below hW)) rfl rfl
end DocR
end Go.Proofs.YtmalfhhkjdkadaaGreatDoor
namespace Go.Proofs.YtmalfhhkjdkadaaGreatDoor
open Go.ChangeShapes Go.WideShapes Go.ChangeAt Go.RowKit Go.Deep
set_option linter.unusedVariables false
namespace DocR
open RowG LinR
section
variable {J:Type} {enc:TypeId × Value→J} {P:Program} {w:World} {base:Nat} {spare:Nat→Bool} {held:Bool}
theorem lst4 {α:Type} {cs:List α} (h:cs.length=4):∃c0 c1 c2 c3,cs=[c0,c1,c2,c3]:=by
 match cs,h with
 | [c0,c1,c2,c3],_=>exact ⟨c0,c1,c2,c3,rfl⟩
theorem slice_one {t e:TypeId} {fuel:Nat} {c:Value} {x:DataW J × List MemPlace} (ht:P.underlying t=some (.slice e)) (h:DataW.trod enc P w base spare held fuel t [c]=some x):∃ao len cap,c=.slice ao len cap:=by
 rcases DataW.trod_slice ht h with ⟨hcs,_⟩|⟨a,len',cap',elems,rest,n,_,hcs,_⟩
 ·simp only [List.cons.injEq,and_true] at hcs
  exact ⟨_,_,_,hcs⟩
 ·simp only [List.cons.injEq,and_true] at hcs
  exact ⟨_,_,_,hcs⟩
theorem doc_open {t te:TypeId} {f0 f1 f2 f3 g0 g1:Field} {fuel:Nat} {cs:List Value} {x:DataW J × List MemPlace} (hs:P.underlying t=some (.struct #[f0,f1,f2,f3])) (hone:oneCellFields P #[f0,f1,f2,f3]=true) (hC:P.cellsOf t=4)
 (u0:P.underlying f0.type=some .string) (u1:P.underlying f1.type=some (.int .i64)) (u2:P.underlying f2.type=some (.int .i64)) (u3:P.underlying f3.type=some (.slice te))
 (hs2:P.underlying te=some (.struct #[g0,g1])) (hone2:oneCellFields P #[g0,g1]=true) (hC2:P.cellsOf te=2) (v0:P.underlying g0.type=some .string) (v1:P.underlying g1.type=some (.int .i64))
 (h:DataW.trod enc P w base spare held fuel t cs=some x) :
 ∃(x:D) (la:Option Addr) (lc:Nat),cs=(dcells x la lc).toList∧x.In∧Lis la x.ls w:=by
 obtain ⟨xs,n,_,_,hl,hlen,hf⟩:=DataW.trod_struct hs h
 obtain ⟨c0,c1,c2,c3,rfl⟩:=lst4 (hl.trans hC)
 obtain ⟨y0,y1,y2,y3,rfl⟩:=lst4 (show xs.length=4 from hlen)
 obtain ⟨o0,k0⟩:=hone_of hone 0 f0 rfl
 obtain ⟨o1,k1⟩:=hone_of hone 1 f1 rfl
 obtain ⟨o2,k2⟩:=hone_of hone 2 f2 rfl
 obtain ⟨o3,k3⟩:=hone_of hone 3 f3 rfl
 have h0:=hf 0 f0 rfl
 have h1:=hf 1 f1 rfl
 have h2:=hf 2 f2 rfl
 have h3:=hf 3 f3 rfl
 simp [o0,k0] at h0
 simp [o1,k1] at h1
 simp [o2,k2] at h2
 simp [o3,k3] at h3
 obtain ⟨a,e0,_,s0⟩:=DataW.trod_string u0 h0
 obtain ⟨p,e1,_,_⟩:=DataW.trod_int u1 h1
 obtain ⟨q,e2,_,_⟩:=DataW.trod_int u2 h2
 obtain ⟨la,ll,lc,rfl⟩:=slice_one u3 h3
 obtain ⟨ls,rfl,q1,q2,q3⟩:=lis_open u3 hs2 hone2 hC2 v0 v1 h3
 simp only [List.cons.injEq,and_true] at e0 e1 e2
 subst e0 e1 e2
 exact ⟨⟨a,p,q,ls⟩,la,lc,rfl,⟨s0,q1,q3⟩,q2⟩
end
end DocR
end Go.Proofs.YtmalfhhkjdkadaaGreatDoor
namespace Go.Proofs.YtmalfhhkjdkadaaGreatDoor
open Go.ChangeShapes Go.WideShapes Go.ChangeAt Go.RowKit
set_option linter.unusedVariables false
namespace CatR
open EvtR (Pt cell_put cell_far)
open RowG (hid_intro)
theorem eqSr_any (u:ByteArray) (p:Int) (w:World):Calls Tryz.prog 80 #[.agg #[.string u,.int .i64 p],.agg #[.string u,.int .i64 p]] w fun e w'=>e=.returned (.bool true)∧Below w.heap.size w w':=by
 go_enter Tryz.func80,Tryz.ntmps80
 go_wp2
 go_ret
 refine ⟨rfl,?_⟩
 repeat' first|exact Below.refl _ _|apply Below.setCell|apply Below.alloc
 all_goals first|omega|(simp;done)|(simp;omega)
set_option maxHeartbeats 4000000 in
theorem eqSrs_any (ao bo:Option Addr) (len cap cap':Nat) (ts:List Cr) (w:World) (hlen:len≤1048576) (hI:Crs ao len ts w) (hJ:Crs bo len ts w) :
 Calls Tryz.prog 32 #[.slice ao len cap,.slice bo len cap'] w fun e w'=>e=.returned (.bool true)∧Below w.heap.size w w':=by
 have HI:=hid_intro hI
 have HJ:=hid_intro hJ
 clear hI hJ
 go_enter Tryz.func32,Tryz.ntmps32
 go_wp2_with fail
 go_loopw [5] (fun z wr=>∃k:Nat,k≤len∧z=.int .i64 k∧Hid (Below w.heap.size w wr)) (fun z _=>len-(intOf z).toNat)
 case atStart=>exact ⟨0,by omega,rfl,hid_intro (Below.refl _ _)⟩
 case round =>
  obtain ⟨k,hk,rfl,HW⟩:=hrel
  by_cases hlt:k<len
  ·have hlt2:(k:Int)<(len:Int):=by omega
   obtain ⟨b,off,rfl,_,c0,c1⟩:=crs_at (HI.out.below HW.out) k hlt
   obtain ⟨b',off',rfl,_,e0,e1⟩:=crs_at (HJ.out.below HW.out) k hlt
   generalize ts.getD k Cr.zero=X at *
   obtain ⟨u,p⟩:=X
   have HC:=hid_intro (fun w=>eqSr_any u p w)
   go_wp2_with fail
   go_region_with (go_at_call 80;refine (HC.out _).mono ?_;rintro e w1 ⟨rfl,hb⟩)
   all_goals (
    have HB1:=hid_intro (HW.out.drew.trans (hb.mono HW.out.drew.size))
    clear hb c0 c1 e0 e1
    go_wp2_with fail
    go_roundw
    case rel=>exact ⟨k+1,by omega,by go_num,HB1⟩
    case measure=>simp [intOf];omega)
  ·have hlt2:¬(k:Int)<(len:Int):=by omega
   go_wp2_with fail
   go_ret
   exact ⟨rfl,HW.out⟩
set_option maxHeartbeats 4000000 in
theorem eqEns0 (ao bo:Option Addr) (cap cap':Nat) (w:World):Calls Tryz.prog 33 #[.slice ao 0 cap,.slice bo 0 cap'] w fun e w'=>e=.returned (.bool true)∧Below w.heap.size w w':=by
 go_enter Tryz.func33,Tryz.ntmps33
 go_wp2_with fail
 go_loopw [5] (fun z wr=>z=.int .i64 0∧Hid (Below w.heap.size w wr)) (fun z _=>0)
 case atStart=>exact ⟨rfl,hid_intro (Below.refl _ _)⟩
 case round =>
  obtain ⟨rfl,HB⟩:=hrel
  go_wp2_with fail
  go_ret
  exact ⟨rfl,HB.out⟩
set_option maxHeartbeats 4000000 in
theorem eqWds0 (ao bo:Option Addr) (cap cap':Nat) (w:World):Calls Tryz.prog 34 #[.slice ao 0 cap,.slice bo 0 cap'] w fun e w'=>e=.returned (.bool true)∧Below w.heap.size w w':=by
 go_enter Tryz.func34,Tryz.ntmps34
 go_wp2_with fail
 go_loopw [5] (fun z wr=>z=.int .i64 0∧Hid (Below w.heap.size w wr)) (fun z _=>0)
 case atStart=>exact ⟨rfl,hid_intro (Below.refl _ _)⟩
 case round =>
  obtain ⟨rfl,HB⟩:=hrel
  go_wp2_with fail
  go_ret
  exact ⟨rfl,HB.out⟩
set_option maxHeartbeats 4000000 in
theorem eqDcs0 (ao bo:Option Addr) (cap cap':Nat) (w:World):Calls Tryz.prog 35 #[.slice ao 0 cap,.slice bo 0 cap'] w fun e w'=>e=.returned (.bool true)∧Below w.heap.size w w':=by
 go_enter Tryz.func35,Tryz.ntmps35
 go_wp2_with fail
 go_loopw [5] (fun z wr=>z=.int .i64 0∧Hid (Below w.heap.size w wr)) (fun z _=>0)
 case atStart=>exact ⟨rfl,hid_intro (Below.refl _ _)⟩
 case round =>
  obtain ⟨rfl,HB⟩:=hrel
  go_wp2_with fail
  go_ret
  exact ⟨rfl,HB.out⟩
set_option maxHeartbeats 4000000 in
theorem eqEng (ma ma':Option Addr) (ml mc mc':Nat) (ca ca':Option Addr) (cl cc cc':Nat) (sa sa':Option Addr) (sl sc sc':Nat) (na na':Option Addr) (nl nc nc':Nat) (ua ua':Option Addr) (ul uc uc':Nat) (da da':Option Addr) (dl dc dc':Nat) (fr:Int) (w:World)
 (h0:∀W,Below w.heap.size w W→Calls Tryz.prog 31 #[.agg #[.slice ma ml mc,.slice ca cl cc],.agg #[.slice ma' ml mc',.slice ca' cl cc']] W fun e w'=>e=.returned (.bool true)∧Below W.heap.size W w')
 (h1:∀W,Below w.heap.size w W→Calls Tryz.prog 32 #[.slice sa sl sc,.slice sa' sl sc'] W fun e w'=>e=.returned (.bool true)∧Below W.heap.size W w')
 (h2:∀W,Below w.heap.size w W→Calls Tryz.prog 33 #[.slice na nl nc,.slice na' nl nc'] W fun e w'=>e=.returned (.bool true)∧Below W.heap.size W w')
 (h3:∀W,Below w.heap.size w W→Calls Tryz.prog 34 #[.slice ua ul uc,.slice ua' ul uc'] W fun e w'=>e=.returned (.bool true)∧Below W.heap.size W w')
 (h4:∀W,Below w.heap.size w W→Calls Tryz.prog 35 #[.slice da dl dc,.slice da' dl dc'] W fun e w'=>e=.returned (.bool true)∧Below W.heap.size W w') :
 Calls Tryz.prog 9 #[.agg #[.slice ma ml mc,.slice ca cl cc,.slice sa sl sc,.slice na nl nc,.slice ua ul uc,.slice da dl dc,.int .i64 fr],.agg #[.slice ma' ml mc',.slice ca' cl cc',.slice sa' sl sc',.slice na' nl nc',.slice ua' ul uc',.slice da' dl dc',.int .i64 fr]] w fun e w'=>e=.returned (.bool true)∧Below w.heap.size w w':=by
 have H0:=hid_intro h0
 have H1:=hid_intro h1
 have H2:=hid_intro h2
 have H3:=hid_intro h3
 have H4:=hid_intro h4
 clear h0 h1 h2 h3 h4
 obtain ⟨W0,hW0⟩:∃W0,W0=(w.alloc (.cells #[.slice ma ml mc,.slice ca cl cc,.slice sa sl sc,.slice na nl nc,.slice ua ul uc,.slice da dl dc,.int .i64 fr] 46)).alloc (.cells #[.slice ma' ml mc',.slice ca' cl cc',.slice sa' sl sc',.slice na' nl nc',.slice ua' ul uc',.slice da' dl dc',.int .i64 fr] 46):=⟨_,rfl⟩
 have B0:Hid (Below w.heap.size w W0):=hid_intro (by rw [hW0];exact ((Below.refl _ _).alloc (Nat.le_refl _) _).alloc (by simp) _)
 have X0:Hid (Blk w.heap.size [.slice ma ml mc,.slice ca cl cc,.slice sa sl sc,.slice na nl nc,.slice ua ul uc,.slice da dl dc,.int .i64 fr] W0):=hid_intro (by rw [hW0];exact (Blk.new w [.slice ma ml mc,.slice ca cl cc,.slice sa sl sc,.slice na nl nc,.slice ua ul uc,.slice da dl dc,.int .i64 fr] 46).below ((Below.refl _ _).alloc (Nat.le_refl _) _))
 have Y0:Hid (Blk (w.heap.size+1) [.slice ma' ml mc',.slice ca' cl cc',.slice sa' sl sc',.slice na' nl nc',.slice ua' ul uc',.slice da' dl dc',.int .i64 fr] W0):=hid_intro (by
  rw [hW0]
  obtain ⟨X,hX⟩:∃X,X=w.alloc (.cells #[.slice ma ml mc,.slice ca cl cc,.slice sa sl sc,.slice na nl nc,.slice ua ul uc,.slice da dl dc,.int .i64 fr] 46):=⟨_,rfl⟩
  have e:X.heap.size=w.heap.size+1:=by rw [hX];simp
  rw [←hX,←e]
  exact Blk.new X [.slice ma' ml mc',.slice ca' cl cc',.slice sa' sl sc',.slice na' nl nc',.slice ua' ul uc',.slice da' dl dc',.int .i64 fr] 46)
 have HW:=hid_intro hW0
 clear hW0
 go_enter Tryz.func9,Tryz.ntmps9
 go_wp2_with fail
 rw [←HW.out]
 clear HW
 refine (H0.out _ B0.out).mono ?_
 rintro e w1 ⟨rfl,hb⟩
 have B1:=hid_intro (B0.out.trans (hb.mono B0.out.size))
 have X1:=hid_intro (X0.out.below hb)
 have Y1:=hid_intro (Y0.out.below hb)
 clear hb B0 X0 Y0
 have xl:=X1.out.1
 have yl:=Y1.out.1
 have x0:w1.cell? ⟨w.heap.size,0,none⟩=some (.slice ma ml mc):=X1.out.2 0 (by simp)
 have y0:w1.cell? ⟨w.heap.size+1,0,none⟩=some (.slice ma' ml mc'):=Y1.out.2 0 (by simp)
 have x1:w1.cell? ⟨w.heap.size,1,none⟩=some (.slice ca cl cc):=X1.out.2 1 (by simp)
 have y1:w1.cell? ⟨w.heap.size+1,1,none⟩=some (.slice ca' cl cc'):=Y1.out.2 1 (by simp)
 have x2:w1.cell? ⟨w.heap.size,2,none⟩=some (.slice sa sl sc):=X1.out.2 2 (by simp)
 have y2:w1.cell? ⟨w.heap.size+1,2,none⟩=some (.slice sa' sl sc'):=Y1.out.2 2 (by simp)
 have x3:w1.cell? ⟨w.heap.size,3,none⟩=some (.slice na nl nc):=X1.out.2 3 (by simp)
 have y3:w1.cell? ⟨w.heap.size+1,3,none⟩=some (.slice na' nl nc'):=Y1.out.2 3 (by simp)
 have x4:w1.cell? ⟨w.heap.size,4,none⟩=some (.slice ua ul uc):=X1.out.2 4 (by simp)
 have y4:w1.cell? ⟨w.heap.size+1,4,none⟩=some (.slice ua' ul uc'):=Y1.out.2 4 (by simp)
 have x5:w1.cell? ⟨w.heap.size,5,none⟩=some (.slice da dl dc):=X1.out.2 5 (by simp)
 have y5:w1.cell? ⟨w.heap.size+1,5,none⟩=some (.slice da' dl dc'):=Y1.out.2 5 (by simp)
 have x6:w1.cell? ⟨w.heap.size,6,none⟩=some (.int .i64 fr):=X1.out.2 6 (by simp)
 have y6:w1.cell? ⟨w.heap.size+1,6,none⟩=some (.int .i64 fr):=Y1.out.2 6 (by simp)
 go_wp2_with fail
 refine (H1.out _ B1.out).mono ?_
 rintro e w2 ⟨rfl,hb⟩
 clear xl yl x0 y0 x1 y1 x2 y2 x3 y3 x4 y4 x5 y5 x6 y6
 have B2:=hid_intro (B1.out.trans (hb.mono B1.out.size))
 have X2:=hid_intro (X1.out.below hb)
 have Y2:=hid_intro (Y1.out.below hb)
 clear hb B1 X1 Y1
 have xl:=X2.out.1
 have yl:=Y2.out.1
 have x0:w2.cell? ⟨w.heap.size,0,none⟩=some (.slice ma ml mc):=X2.out.2 0 (by simp)
 have y0:w2.cell? ⟨w.heap.size+1,0,none⟩=some (.slice ma' ml mc'):=Y2.out.2 0 (by simp)
 have x1:w2.cell? ⟨w.heap.size,1,none⟩=some (.slice ca cl cc):=X2.out.2 1 (by simp)
 have y1:w2.cell? ⟨w.heap.size+1,1,none⟩=some (.slice ca' cl cc'):=Y2.out.2 1 (by simp)
 have x2:w2.cell? ⟨w.heap.size,2,none⟩=some (.slice sa sl sc):=X2.out.2 2 (by simp)
 have y2:w2.cell? ⟨w.heap.size+1,2,none⟩=some (.slice sa' sl sc'):=Y2.out.2 2 (by simp)
 have x3:w2.cell? ⟨w.heap.size,3,none⟩=some (.slice na nl nc):=X2.out.2 3 (by simp)
 have y3:w2.cell? ⟨w.heap.size+1,3,none⟩=some (.slice na' nl nc'):=Y2.out.2 3 (by simp)
 have x4:w2.cell? ⟨w.heap.size,4,none⟩=some (.slice ua ul uc):=X2.out.2 4 (by simp)
 have y4:w2.cell? ⟨w.heap.size+1,4,none⟩=some (.slice ua' ul uc'):=Y2.out.2 4 (by simp)
 have x5:w2.cell? ⟨w.heap.size,5,none⟩=some (.slice da dl dc):=X2.out.2 5 (by simp)
 have y5:w2.cell? ⟨w.heap.size+1,5,none⟩=some (.slice da' dl dc'):=Y2.out.2 5 (by simp)
 have x6:w2.cell? ⟨w.heap.size,6,none⟩=some (.int .i64 fr):=X2.out.2 6 (by simp)
 have y6:w2.cell? ⟨w.heap.size+1,6,none⟩=some (.int .i64 fr):=Y2.out.2 6 (by simp)
 go_wp2_with fail
 refine (H2.out _ B2.out).mono ?_
 rintro e w3 ⟨rfl,hb⟩
 clear xl yl x0 y0 x1 y1 x2 y2 x3 y3 x4 y4 x5 y5 x6 y6
 have B3:=hid_intro (B2.out.trans (hb.mono B2.out.size))
 have X3:=hid_intro (X2.out.below hb)
 have Y3:=hid_intro (Y2.out.below hb)
 clear hb B2 X2 Y2
 have xl:=X3.out.1
 have yl:=Y3.out.1
 have x0:w3.cell? ⟨w.heap.size,0,none⟩=some (.slice ma ml mc):=X3.out.2 0 (by simp)
 have y0:w3.cell? ⟨w.heap.size+1,0,none⟩=some (.slice ma' ml mc'):=Y3.out.2 0 (by simp)
 have x1:w3.cell? ⟨w.heap.size,1,none⟩=some (.slice ca cl cc):=X3.out.2 1 (by simp)
 have y1:w3.cell? ⟨w.heap.size+1,1,none⟩=some (.slice ca' cl cc'):=Y3.out.2 1 (by simp)
 have x2:w3.cell? ⟨w.heap.size,2,none⟩=some (.slice sa sl sc):=X3.out.2 2 (by simp)
 have y2:w3.cell? ⟨w.heap.size+1,2,none⟩=some (.slice sa' sl sc'):=Y3.out.2 2 (by simp)
 have x3:w3.cell? ⟨w.heap.size,3,none⟩=some (.slice na nl nc):=X3.out.2 3 (by simp)
 have y3:w3.cell? ⟨w.heap.size+1,3,none⟩=some (.slice na' nl nc'):=Y3.out.2 3 (by simp)
 have x4:w3.cell? ⟨w.heap.size,4,none⟩=some (.slice ua ul uc):=X3.out.2 4 (by simp)
 have y4:w3.cell? ⟨w.heap.size+1,4,none⟩=some (.slice ua' ul uc'):=Y3.out.2 4 (by simp)
 have x5:w3.cell? ⟨w.heap.size,5,none⟩=some (.slice da dl dc):=X3.out.2 5 (by simp)
 have y5:w3.cell? ⟨w.heap.size+1,5,none⟩=some (.slice da' dl dc'):=Y3.out.2 5 (by simp)
 have x6:w3.cell? ⟨w.heap.size,6,none⟩=some (.int .i64 fr):=X3.out.2 6 (by simp)
 have y6:w3.cell? ⟨w.heap.size+1,6,none⟩=some (.int .i64 fr):=Y3.out.2 6 (by simp)
 go_wp2_with fail
 refine (H3.out _ B3.out).mono ?_
 rintro e w4 ⟨rfl,hb⟩
 clear xl yl x0 y0 x1 y1 x2 y2 x3 y3 x4 y4 x5 y5 x6 y6
 have B4:=hid_intro (B3.out.trans (hb.mono B3.out.size))
 have X4:=hid_intro (X3.out.below hb)
 have Y4:=hid_intro (Y3.out.below hb)
 clear hb B3 X3 Y3
 have xl:=X4.out.1
 have yl:=Y4.out.1
 have x0:w4.cell? ⟨w.heap.size,0,none⟩=some (.slice ma ml mc):=X4.out.2 0 (by simp)
 have y0:w4.cell? ⟨w.heap.size+1,0,none⟩=some (.slice ma' ml mc'):=Y4.out.2 0 (by simp)
 have x1:w4.cell? ⟨w.heap.size,1,none⟩=some (.slice ca cl cc):=X4.out.2 1 (by simp)
 have y1:w4.cell? ⟨w.heap.size+1,1,none⟩=some (.slice ca' cl cc'):=Y4.out.2 1 (by simp)
 have x2:w4.cell? ⟨w.heap.size,2,none⟩=some (.slice sa sl sc):=X4.out.2 2 (by simp)
 have y2:w4.cell? ⟨w.heap.size+1,2,none⟩=some (.slice sa' sl sc'):=Y4.out.2 2 (by simp)
 have x3:w4.cell? ⟨w.heap.size,3,none⟩=some (.slice na nl nc):=X4.out.2 3 (by simp)
 have y3:w4.cell? ⟨w.heap.size+1,3,none⟩=some (.slice na' nl nc'):=Y4.out.2 3 (by simp)
 have x4:w4.cell? ⟨w.heap.size,4,none⟩=some (.slice ua ul uc):=X4.out.2 4 (by simp)
 have y4:w4.cell? ⟨w.heap.size+1,4,none⟩=some (.slice ua' ul uc'):=Y4.out.2 4 (by simp)
 have x5:w4.cell? ⟨w.heap.size,5,none⟩=some (.slice da dl dc):=X4.out.2 5 (by simp)
 have y5:w4.cell? ⟨w.heap.size+1,5,none⟩=some (.slice da' dl dc'):=Y4.out.2 5 (by simp)
 have x6:w4.cell? ⟨w.heap.size,6,none⟩=some (.int .i64 fr):=X4.out.2 6 (by simp)
 have y6:w4.cell? ⟨w.heap.size+1,6,none⟩=some (.int .i64 fr):=Y4.out.2 6 (by simp)
 go_wp2_with fail
 refine (H4.out _ B4.out).mono ?_
 rintro e w5 ⟨rfl,hb⟩
 clear xl yl x0 y0 x1 y1 x2 y2 x3 y3 x4 y4 x5 y5 x6 y6
 have B5:=hid_intro (B4.out.trans (hb.mono B4.out.size))
 have X5:=hid_intro (X4.out.below hb)
 have Y5:=hid_intro (Y4.out.below hb)
 clear hb B4 X4 Y4
 have xl:=X5.out.1
 have yl:=Y5.out.1
 have x0:w5.cell? ⟨w.heap.size,0,none⟩=some (.slice ma ml mc):=X5.out.2 0 (by simp)
 have y0:w5.cell? ⟨w.heap.size+1,0,none⟩=some (.slice ma' ml mc'):=Y5.out.2 0 (by simp)
 have x1:w5.cell? ⟨w.heap.size,1,none⟩=some (.slice ca cl cc):=X5.out.2 1 (by simp)
 have y1:w5.cell? ⟨w.heap.size+1,1,none⟩=some (.slice ca' cl cc'):=Y5.out.2 1 (by simp)
 have x2:w5.cell? ⟨w.heap.size,2,none⟩=some (.slice sa sl sc):=X5.out.2 2 (by simp)
 have y2:w5.cell? ⟨w.heap.size+1,2,none⟩=some (.slice sa' sl sc'):=Y5.out.2 2 (by simp)
 have x3:w5.cell? ⟨w.heap.size,3,none⟩=some (.slice na nl nc):=X5.out.2 3 (by simp)
 have y3:w5.cell? ⟨w.heap.size+1,3,none⟩=some (.slice na' nl nc'):=Y5.out.2 3 (by simp)
 have x4:w5.cell? ⟨w.heap.size,4,none⟩=some (.slice ua ul uc):=X5.out.2 4 (by simp)
 have y4:w5.cell? ⟨w.heap.size+1,4,none⟩=some (.slice ua' ul uc'):=Y5.out.2 4 (by simp)
 have x5:w5.cell? ⟨w.heap.size,5,none⟩=some (.slice da dl dc):=X5.out.2 5 (by simp)
 have y5:w5.cell? ⟨w.heap.size+1,5,none⟩=some (.slice da' dl dc'):=Y5.out.2 5 (by simp)
 have x6:w5.cell? ⟨w.heap.size,6,none⟩=some (.int .i64 fr):=X5.out.2 6 (by simp)
 have y6:w5.cell? ⟨w.heap.size+1,6,none⟩=some (.int .i64 fr):=Y5.out.2 6 (by simp)
 go_wp2_with fail
 go_ret
 exact ⟨rfl,B5.out⟩
end CatR
namespace ChG
open EvtR (Pt)
structure Chg (S:Nat→Prop) (w w':World):Prop where
 os:w'.os=w.os
 tape:w'.tape=w.tape
 output:w'.output=w.output
 size:w.heap.size≤w'.heap.size
 block:∀b,b<w.heap.size→¬S b→w'.heap[b]? = w.heap[b]?
theorem Chg.refl (S:Nat→Prop) (w:World):Chg S w w:=⟨rfl,rfl,rfl,Nat.le_refl _,fun _ _ _=>rfl⟩
theorem Chg.below {S:Nat→Prop} {w w1 w2:World} (h:Chg S w w1) (hb:Below w1.heap.size w1 w2):Chg S w w2 :=
 ⟨hb.os.trans h.os,hb.tape.trans h.tape,hb.output.trans h.output,Nat.le_trans h.size hb.size,fun b h1 h2=>(hb.block b (by have:=h.size;omega)).trans (h.block b h1 h2)⟩
theorem Chg.grown {S:Nat→Prop} {x:Nat} {w w1 w2:World} (h:Chg S w w1) (hg:w1.grownBy w2 (some x)) (hx:S x):Chg S w w2 :=
 ⟨hg.os.trans h.os,hg.tape.trans h.tape,hg.output.trans h.output,Nat.le_trans h.size hg.size,fun b h1 h2=>(hg.block b (by have:=h.size;omega) (by intro e;simp only [Option.some.injEq] at e;subst e;exact h2 hx)).trans (h.block b h1 h2)⟩
theorem Chg.trans {S:Nat→Prop} {w w1 w2:World} (h:Chg S w w1) (h2:Chg S w1 w2):Chg S w w2 :=
 ⟨h2.os.trans h.os,h2.tape.trans h.tape,h2.output.trans h.output,Nat.le_trans h.size h2.size,fun b h1 hs=>(h2.block b (by have:=h.size;omega) hs).trans (h.block b h1 hs)⟩
theorem Chg.wide {S S':Nat→Prop} {w w':World} (h:Chg S w w') (hs:∀b,S b→S' b):Chg S' w w' :=
 ⟨h.os,h.tape,h.output,h.size,fun b h1 h2=>h.block b h1 (fun q=>h2 (hs b q))⟩
theorem Chg.of_below {S:Nat→Prop} {w w':World} (hb:Below w.heap.size w w'):Chg S w w':=(Chg.refl S w).below hb
theorem Chg.out {S:Nat→Prop} {B:Nat} {a w w':World} (h:Chg S w w') (hb:Below B a w) (hB:∀b,S b→B≤b) (ha:B≤a.heap.size):Below B a w' :=
 ⟨h.os.trans hb.os,h.tape.trans hb.tape,h.output.trans hb.output,Nat.le_trans hb.size h.size,fun k hk=>(h.block k (by have:=hb.size;omega) (fun q=>by have:=hB k q;omega)).trans (hb.block k hk)⟩
theorem pt_block {p n:Nat} {W W':World} (h:Pt p n W) (hs:W.heap.size≤W'.heap.size) (e:W'.heap[p]? = W.heap[p]?):Pt p n W' :=
 ⟨by have:=h.lt;omega,fun o ho=>by obtain ⟨v,hv⟩:=h.has o ho;exact ⟨v,(World.cell?_of_block (a:=⟨p,o,none⟩) e).trans hv⟩,fun o ho=>(World.frozen?_of_block (a:=⟨p,o,none⟩) e).trans (h.free o ho)⟩
theorem Chg.pt {S:Nat→Prop} {p n:Nat} {W W':World} (h:Chg S W W') (hp:Pt p n W) (hn:¬S p):Pt p n W':=pt_block hp h.size (h.block p hp.lt hn)
theorem Chg.blk {S:Nat→Prop} {b:Nat} {cs:List Value} {w w':World} (h:Chg S w w') (hp:CatR.Blk b cs w) (hn:¬S b):CatR.Blk b cs w' :=
 ⟨by have:=h.size;have:=hp.1;omega,fun i hi=>(World.cell?_of_block (a:=⟨b,i,none⟩) (h.block b hp.1 hn)).trans (hp.2 i hi)⟩
end ChG
namespace EngR
open ChG
open EvtR (Pt)
structure Kq (base:Nat) (w w':World):Prop where
 size:w.heap.size≤w'.heap.size
 block:∀k,base≤k→k<w.heap.size→w'.heap[k]? = w.heap[k]?
theorem Kq.refl (base:Nat) (w:World):Kq base w w:=⟨Nat.le_refl _,fun _ _ _=>rfl⟩
theorem Kq.below {base:Nat} {w w1 w2:World} (h:Kq base w w1) (hb:Below w1.heap.size w1 w2):Kq base w w2 :=
 ⟨Nat.le_trans h.size hb.size,fun k h1 h2=>(hb.block k (by have:=h.size;omega)).trans (h.block k h1 h2)⟩
theorem Kq.chg {base:Nat} {S:Nat→Prop} {w w1 w2:World} (h:Kq base w w1) (hc:Chg S w1 w2) (hS:∀b,S b→b<base):Kq base w w2 :=
 ⟨Nat.le_trans h.size hc.size,fun k h1 h2=>(hc.block k (by have:=h.size;omega) (fun q=>by have:=hS k q;omega)).trans (h.block k h1 h2)⟩
theorem own_kq {W W':World} {base e size n:Nat} {v:Value} {xs:List Value} (h:W.ownsRow base e size v n xs) (hk:Kq base W W'):W'.ownsRow base e size v n xs:=by
 have hl:=h.lt
 obtain ⟨h1,h2⟩:=h
 refine ⟨h1,h2.imp id ?_⟩
 rintro ⟨g,cap,cur,rfl,hg,hh,rest⟩
 refine ⟨g,cap,cur,rfl,hg,?_,rest⟩
 rw [hk.block g hg (hl g rfl).2]
 exact hh
theorem Kq.cell {base:Nat} {w w':World} (h:Kq base w w') {b:Nat} (hb:base≤b) (hl:b<w.heap.size) (o:Nat):w'.cell? ⟨b,o,none⟩=w.cell? ⟨b,o,none⟩:=World.cell?_of_block (a:=⟨b,o,none⟩) (h.block b hb hl)
theorem Kq.pt {base b n:Nat} {w w':World} (h:Kq base w w') (hp:Pt b n w) (hb:base≤b):Pt b n w':=pt_block hp h.size (h.block b hb hp.lt)
theorem Kq.low {base base':Nat} {w w':World} (h:Kq base w w') (hb:base≤base'):Kq base' w w':=⟨h.size,fun k h1 h2=>h.block k (by omega) h2⟩
theorem Kq.trans {base:Nat} {w w1 w2:World} (h:Kq base w w1) (h2:Kq base w1 w2):Kq base w w2:=⟨Nat.le_trans h.size h2.size,fun k h3 h4=>(h2.block k h3 (by have:=h.size;omega)).trans (h.block k h3 h4)⟩
theorem rws_kq {α:Type} {k:Nat} {cells:α→List Value} {z:α} {ao:Option Addr} {xs:List α} {base:Nat} {w w':World} (h:RowG.Rws k cells z ao xs w) (hk:Kq base w w') (hb:xs.length=0∨∀b off,ao=some ⟨b,off,none⟩→base≤b):RowG.Rws k cells z ao xs w':=by
 rcases h with h0|⟨b,off,e,hl,hc⟩
 ·exact .inl h0
 ·rcases hb with h0|hb
  ·exact .inl h0
  ·exact .inr ⟨b,off,e,Nat.lt_of_lt_of_le hl hk.size,fun j hj i hi=>(hk.cell (hb b off e) hl _).trans (hc j hj i hi)⟩
end EngR
namespace EngR
open CatR ChG
open EvtR (Pt)
theorem ti_kq {base b o:Nat} {t:Ti} {w w':World} (h:TiAt w b o t) (hk:Kq base w w') (hb:base≤b) (hl:b<w.heap.size):TiAt w' b o t:=⟨(hk.cell hb hl _).trans h.1,(hk.cell hb hl _).trans h.2⟩
theorem tis_kq {base b off len:Nat} {ts:List Ti} {w w':World} (h:Tis (some ⟨b,off,none⟩) len ts w) (hk:Kq base w w') (hb:base≤b):Tis (some ⟨b,off,none⟩) len ts w':=by
 refine ⟨h.1,?_⟩
 rcases h.2 with h0|⟨b',off',e,hl,hc⟩
 ·exact .inl h0
 ·cases e
  exact .inr ⟨b,off,rfl,Nat.lt_of_lt_of_le hl hk.size,fun j hj=>ti_kq (hc j hj) hk hb hl⟩
theorem crs_kq {base b off len:Nat} {ts:List Cr} {w w':World} (h:Crs (some ⟨b,off,none⟩) len ts w) (hk:Kq base w w') (hb:base≤b):Crs (some ⟨b,off,none⟩) len ts w':=by
 refine ⟨h.1,?_⟩
 rcases h.2 with h0|⟨b',off',e,hl,hc⟩
 ·exact .inl h0
 ·cases e
  exact .inr ⟨b,off,rfl,Nat.lt_of_lt_of_le hl hk.size,fun j hj=>⟨(hk.cell hb hl _).trans (hc j hj).1,(hk.cell hb hl _).trans (hc j hj).2⟩⟩
theorem newca_kq {base:Nat} {v:Value} {c:Ca} {w w':World} (h:NewCa base v c w) (hk:Kq base w w'):NewCa base v c w':=by
 obtain ⟨g,bs,h0,h1,h2,h3,h4,h5,h6⟩:=h
 have hg:=h2.lo
 refine ⟨g,bs,h0,h1,⟨h2.lo,hk.pt h2.pt hg,h2.inc,fun i hi=>?_⟩,h3,h4,crs_kq h5 hk (by omega),hk.pt h6 (by omega)⟩
 obtain ⟨⟨c0,c1,c2,c3,c4,c5⟩,c6,c7⟩:=h2.cel i hi
 have hb:=(h2.inc i hi).1
 have f:=fun o=>hk.cell hg h2.pt.lt o
 exact ⟨⟨(f _).trans c0,(f _).trans c1,(f _).trans c2,(f _).trans c3,(f _).trans c4,(f _).trans c5⟩,tis_kq c6 hk (by omega),hk.pt c7 (by omega)⟩
theorem inn_kq {base g t t':Nat} {a:Option Addr} {n m:Nat} {w w':World} (h:WinR.Inn g t a n m w) (hk:Kq base w w') (hb:base≤g) (ht:t≤t'):WinR.Inn g t' a n m w':=h.imp id (fun ⟨g',e1,e2,e3,e4⟩=>⟨g',e1,e2,by omega,hk.pt e4 (by omega)⟩)
theorem wx_kq {base g t k:Nat} {ws:List WinR.Wd} {w w':World} (h:WinR.WX g t k ws w) (hg:g<w.heap.size) (hk:Kq base w w') (hb:base≤g):WinR.WX g t k ws w':=fun j hj=>by
 obtain ⟨ta,tc,ha,hc,c6,c7,n1,n2⟩:=h j hj
 exact ⟨ta,tc,ha,hc,(hk.cell hb hg _).trans c6,(hk.cell hb hg _).trans c7,inn_kq n1 hk hb (Nat.le_refl _),inn_kq n2 hk hb (Nat.le_refl _)⟩
theorem ww_kq {base g k:Nat} {ws:List WinR.Wd} {w w':World} (h:WinR.WW g k ws w) (hg:g<w.heap.size) (hk:Kq base w w') (hb:base≤g):WinR.WW g k ws w':=by
 intro j hj
 obtain ⟨ta,tc,ha,hc,c0,c1,c2,c3,c4,c5,c6,c7,hT,hH,n1,n2⟩:=h j hj
 have f:=fun o=>hk.cell hb hg o
 exact ⟨ta,tc,ha,hc,(f _).trans c0,(f _).trans c1,(f _).trans c2,(f _).trans c3,(f _).trans c4,(f _).trans c5,(f _).trans c6,(f _).trans c7,rws_kq hT hk (n1.imp id (fun ⟨g',e1,e2,_⟩ b off e=>by rw [e1] at e;simp at e;omega)),rws_kq hH hk (n2.imp id (fun ⟨g',e1,e2,_⟩ b off e=>by rw [e1] at e;simp at e;omega)),inn_kq n1 hk hb hk.size,inn_kq n2 hk hb hk.size⟩
end EngR
end Go.Proofs.YtmalfhhkjdkadaaGreatDoor
namespace Go.Proofs.YtmalfhhkjdkadaaGreatDoor
open Go.RowKit
namespace SeenR
open RowG
theorem szL_mem {es:List N} {e:N} (h:e∈es):(e.i.size:Int)≤szL es:=by
 induction es with
 | nil=>cases h
 | cons x es ih =>
  have hn:=szL_nn es
  have hx:szL (x::es)=(x.i.size:Int)+szL es:=by simp [szL]
  rcases List.mem_cons.1 h with rfl|h
  ·omega
  ·have:=ih h;omega
theorem sz_small {es:List N} (h:¬szR es<0):es.length≤1048576∧(∀e∈es,e.i.size≤1048576)∧0≤szR es∧szR es≤1048576:=by
 unfold szR at *
 have hn:=szL_nn es
 by_cases q:(es.length:Int)+szL es≤1048576
 ·rw [if_pos q]
  exact ⟨by omega,fun e he=>by have:=szL_mem he;omega,by omega,by omega⟩
 ·rw [if_neg q] at h
  exact absurd (by omega) h
end SeenR
end Go.Proofs.YtmalfhhkjdkadaaGreatDoor
namespace Go.Proofs.YtmalfhhkjdkadaaGreatDoor
open Go.ChangeShapes Go.WideShapes Go.ChangeAt Go.RowKit
structure HW (S:World→Prop) where
 w:World
 h:S w
theorem wp_region_hw {P:Program} {id:Nat} {Q:Exit→Act→World→Prop} {a:Act} {w:World} {l:List Oper} (S:World→Prop) (hm:P.follows .mixedOrders=true) (hB:Region.lexB .any l.toArray=true) (hC:S w.drew)
 (h:wpQuiet P l.toArray (fun w'=>∃s:HW S,w'=s.w) (fun a'=>∀w',(∃s:HW S,w'=s.w)→Q .normal a' w') l a):(Code.region id l.toArray true).wp P Q a w :=
 wp_region_quiet (C:=fun w'=>∃s:HW S,w'=s.w) hm hB ⟨⟨_,hC⟩,rfl⟩ (by simpa using h)
end Go.Proofs.YtmalfhhkjdkadaaGreatDoor
namespace Go.Proofs.YtmalfhhkjdkadaaGreatDoor
open Go.ChangeShapes Go.WideShapes Go.ChangeAt Go.RowKit
set_option linter.unusedVariables false
namespace DateR
open DateM
theorem hid_intro {p:Prop} (h:p):Hid p:=h
theorem tmod_iff (y k:Int):y.tmod k=0↔y % k=0:=⟨fun h=>Int.emod_eq_zero_of_dvd (Int.dvd_of_tmod_eq_zero h),fun h=>Int.tmod_eq_zero_of_dvd (Int.dvd_of_emod_eq_zero h)⟩
theorem leap_a (y:Int) (h1:y.tmod 4=0) (h2:y.tmod 100=0):(y.tmod 400==0)=leapB y:=by
 rw [tmod_iff] at h1 h2
 unfold leapB
 rw [Bool.eq_iff_iff,beq_iff_eq,decide_eq_true_eq,tmod_iff]
 omega
theorem leap_b (y:Int) (h1:y.tmod 4=0) (h2:¬y.tmod 100=0):true=leapB y:=by
 rw [tmod_iff] at h1 h2
 exact (decide_eq_true ⟨h1,.inl h2⟩).symm
theorem leap_c (y:Int) (h1:¬y.tmod 4=0):false=leapB y:=by
 rw [tmod_iff] at h1
 exact (decide_eq_false fun h=>h1 h.1).symm
theorem leap_d (y:Int) (h1:¬y.tmod 4=0):(y.tmod 400==0)=leapB y:=by
 rw [tmod_iff] at h1
 unfold leapB
 rw [Bool.eq_iff_iff,beq_iff_eq,decide_eq_true_eq,tmod_iff]
 omega
theorem impl_leap (y:Int) (w:World):Calls Tryz.prog 213 #[.int .i64 y] w fun e w'=>e=.returned (.bool (leapB y))∧w'=w:=by
 go_enter Tryz.func213,Tryz.ntmps213
 go_wp2
 ·go_ret
  exact ⟨ret_bool (leap_a y ‹_› ‹_›),rfl⟩
 ·go_ret
  exact ⟨ret_bool (leap_b y ‹_› ‹_›),rfl⟩
 ·go_ret
  exact ⟨ret_bool (leap_d y ‹_›),rfl⟩
theorem spec_leap (y:Int) (w:World):Calls Tryz.prog 184 #[.int .i64 y] w fun e w'=>e=.returned (.bool (leapB y))∧w'=w:=by
 go_enter Tryz.func184,Tryz.ntmps184
 go_wp2
 ·go_ret
  exact ⟨ret_bool (leap_a y ‹_› ‹_›),rfl⟩
 ·go_ret
  exact ⟨ret_bool (leap_b y ‹_› ‹_›),rfl⟩
 ·go_ret
  exact ⟨ret_bool (leap_c y ‹_›),rfl⟩
def wd (d:Int):Int:=if 0≤d∧d≤100000 then (d+3) % 7 else -1
end DateR
namespace DateR
open DateM
def tab:List Int:=[31,28,31,30,31,30,31,31,30,31,30,31]
def Laid (w:World):Prop:=1<w.heap.size∧∀k:Nat,k<12→w.cell? ⟨1,k,none⟩=some (.int .i64 (tab.getD k 0))
theorem Laid.below {w w':World} (h:Laid w) (hb:Below w.heap.size w w'):Laid w' :=
 ⟨by have:=hb.size;have:=h.1;omega,fun k hk=>by rw [hb.cell (p:=⟨1,k,none⟩) h.1];exact h.2 k hk⟩
theorem bel_drewN {B:Nat} {a w:World} (h:Below B a w) (n:Nat):Below B a (w.drewN n):=⟨h.os,h.tape,h.output,h.size,h.block⟩
theorem Laid.drewN {w:World} (h:Laid w) (n:Nat):Laid (w.drewN n):=⟨by simpa using h.1,fun k hk=>by simpa using h.2 k hk⟩
theorem within_any (n low high:Int) (w:World) :
 Calls Tryz.prog 118 #[.int .i64 n,.int .i64 low,.int .i64 high] w fun e w'=>e=.returned (.bool (decide (low≤n∧n≤high)))∧w'=w:=by
 by_cases h1:low≤n
 ·go_enter Tryz.func118,Tryz.ntmps118
  go_wp2
  go_ret
  exact ⟨ret_bool (by simp [h1]),rfl⟩
 ·go_enter Tryz.func118,Tryz.ntmps118
  go_wp2
  go_ret
  exact ⟨ret_bool (by rw [decide_eq_false (show ¬low≤n by omega)];rfl),rfl⟩
theorem tab_md (y:Int) (k:Nat) (h:k<12) (h2:k=1→leapB y=false):tab.getD k 0=md y ((k:Int)+1):=by
 match k,h,h2 with
 | 0,_,_=>rfl
 | 1,_,h2=>unfold md;rw [h2 rfl];rfl
 | 2,_,_=>rfl
 | 3,_,_=>rfl
 | 4,_,_=>rfl
 | 5,_,_=>rfl
 | 6,_,_=>rfl
 | 7,_,_=>rfl
 | 8,_,_=>rfl
 | 9,_,_=>rfl
 | 10,_,_=>rfl
 | 11,_,_=>rfl
theorem tab_name (w:World) (k:Nat) (hk:k<12) (hL:Laid w):∃X:Int,w.cell? ⟨1,k,none⟩=some (.int .i64 X)∧Hid (X=tab.getD k 0):=⟨_,hL.2 k hk,rfl⟩
theorem md_2 (y:Int):md y 2=if leapB y=true then 29 else 28:=rfl
theorem impl_md_in (y:Int) (k:Nat) (hk:k<12) (y1:1970≤y) (y2:y≤2200) (w:World) (hL:Laid w) :
 Calls Tryz.prog 192 #[.int .i64 y,.int .i64 ((k:Int)+1)] w fun e w'=>e=.returned (.int .i64 (md y ((k:Int)+1)))∧w'=w:=by
 obtain ⟨X,hc,HX⟩:=tab_name w k hk hL
 have h0:=hL.1
 have k1:(1:Int)≤(k:Int)+1:=by omega
 have k2:(k:Int)+1≤12:=by omega
 have HK:=hid_intro hk
 clear hL
 by_cases e:k=1
 ·subst e
  cases hl:leapB y
  ·have hi:=fun w=>impl_leap y w
   rw [hl] at hi
   have HM:Hid (X=md y 2):=by
    show X=md y 2
    rw [HX.out,md_2,hl];rfl
   clear hl
   go_enter Tryz.func192,Tryz.ntmps192
   go_wp2_with (first|(go_at_call 118;go_in)|(go_at_call 213;refine (hi _).mono ?_;rintro e w' ⟨rfl,rfl⟩))
   go_ret
   exact ⟨ret_int HM.out,rfl⟩
  ·have hi:=fun w=>impl_leap y w
   rw [hl] at hi
   have HM:Hid (29=md y 2):=by
    show 29=md y 2
    rw [md_2,hl];rfl
   clear hl
   go_enter Tryz.func192,Tryz.ntmps192
   go_wp2_with (first|(go_at_call 118;go_in)|(go_at_call 213;refine (hi _).mono ?_;rintro e w' ⟨rfl,rfl⟩))
   go_ret
   exact ⟨ret_int HM.out,rfl⟩
 ·have ne:¬(k:Int)+1=2:=by omega
  have nf:((k:Int)+1==2)=false:=by simpa using ne
  have HM:=hid_intro (HX.out.trans (tab_md y k hk fun h=>absurd h e))
  clear e hk
  go_enter Tryz.func192,Tryz.ntmps192
  go_wp2_with (first|(go_at_call 118;go_in)|(go_at_call 213;refine (impl_leap y _).mono ?_;rintro e w' ⟨rfl,rfl⟩))
  go_ret
  exact ⟨ret_int HM.out,rfl⟩
theorem md_key (y m:Int) (h:¬(1970≤y∧y≤2200∧1≤m∧m≤12)):(¬1970≤y)∨(1970≤y∧¬y≤2200)∨(1970≤y∧y≤2200∧((¬1≤m)∨(1≤m∧¬m≤12))):=by omega
theorem impl_md_out (y m:Int) (h:¬(1970≤y∧y≤2200∧1≤m∧m≤12)) (w:World) :
 Calls Tryz.prog 192 #[.int .i64 y,.int .i64 m] w fun e w'=>e=.returned (.int .i64 0)∧w'=w:=by
 rcases md_key y m h with h1|⟨h1,h2⟩|⟨h1,h2,h3|⟨h3,h4⟩⟩
 all_goals
  clear h
  go_enter Tryz.func192,Tryz.ntmps192
  go_wp2
  go_ret
  exact ⟨rfl,rfl⟩
theorem impl_md (y m:Int) (w:World) (hL:Laid w) :
 Calls Tryz.prog 192 #[.int .i64 y,.int .i64 m] w fun e w'=>e=.returned (.int .i64 (mdays y m))∧w'=w:=by
 unfold mdays
 by_cases h:1970≤y∧y≤2200∧1≤m∧m≤12
 ·rw [if_pos h]
  obtain ⟨k,rfl⟩:∃k:Nat,m=(k:Int)+1:=⟨(m-1).toNat,by omega⟩
  exact impl_md_in y k (by omega) h.1 h.2.1 w hL
 ·rw [if_neg h]
  exact impl_md_out y m h w
theorem tab_at (k:Nat) (h:k<12):([Value.int IntKind.i64 31,Value.int IntKind.i64 28,Value.int IntKind.i64 31,Value.int IntKind.i64 30,Value.int IntKind.i64 31,Value.int IntKind.i64 30,Value.int IntKind.i64 31,Value.int IntKind.i64 31,Value.int IntKind.i64 30,Value.int IntKind.i64 31,Value.int IntKind.i64 30,Value.int IntKind.i64 31]:List Value)[k]=.int .i64 (tab.getD k 0):=by
 match k,h with
 | 0,_=>rfl
 | 1,_=>rfl
 | 2,_=>rfl
 | 3,_=>rfl
 | 4,_=>rfl
 | 5,_=>rfl
 | 6,_=>rfl
 | 7,_=>rfl
 | 8,_=>rfl
 | 9,_=>rfl
 | 10,_=>rfl
 | 11,_=>rfl
theorem spec_md_in (y:Int) (k:Nat) (hk:k<12) (y1:1970≤y) (y2:y≤2200) (w:World) :
 Calls Tryz.prog 147 #[.int .i64 y,.int .i64 ((k:Int)+1)] w fun e w'=>e=.returned (.int .i64 (md y ((k:Int)+1)))∧Below w.heap.size w w':=by
 have k1:(1:Int)≤(k:Int)+1:=by omega
 have k2:(k:Int)+1≤12:=by omega
 by_cases e:k=1
 ·subst e
  cases hl:leapB y
  ·have hi:=fun w=>spec_leap y w
   rw [hl] at hi
   have HM:Hid (28=md y 2):=by
    show 28=md y 2
    rw [md_2,hl];rfl
   clear hl
   go_enter Tryz.func147,Tryz.ntmps147
   go_wp2_with (first|(go_at_call 183;go_in)|(go_at_call 95;go_in)|(go_at_call 184;refine (hi _).mono ?_;rintro e w' ⟨rfl,rfl⟩))
   go_ret
   exact ⟨ret_int HM.out,(Below.refl _ _).alloc (Nat.le_refl _) _⟩
  ·have hi:=fun w=>spec_leap y w
   rw [hl] at hi
   have HM:Hid (29=md y 2):=by
    show 29=md y 2
    rw [md_2,hl];rfl
   clear hl
   go_enter Tryz.func147,Tryz.ntmps147
   go_wp2_with (first|(go_at_call 183;go_in)|(go_at_call 95;go_in)|(go_at_call 184;refine (hi _).mono ?_;rintro e w' ⟨rfl,rfl⟩))
   go_ret
   exact ⟨ret_int HM.out,Below.refl _ _⟩
 ·have ne:¬(k:Int)+1=2:=by omega
  have nf:((k:Int)+1==2)=false:=by simpa using ne
  have HM:=hid_intro (tab_md y k hk fun h=>absurd h e)
  have HK:=hid_intro hk
  clear e
  go_enter Tryz.func147,Tryz.ntmps147
  go_wp2_with (first|(go_at_call 183;go_in)|(go_at_call 95;go_in)|(go_at_call 184;refine (spec_leap y _).mono ?_;rintro e w' ⟨rfl,rfl⟩))
  go_ret
  exact ⟨(congrArg Ending.returned (tab_at k HK.out)).trans (ret_int HM.out),(Below.refl _ _).alloc (Nat.le_refl _) _⟩
theorem spec_md_out (y m:Int) (h:¬(1970≤y∧y≤2200∧1≤m∧m≤12)) (w:World) :
 Calls Tryz.prog 147 #[.int .i64 y,.int .i64 m] w fun e w'=>e=.returned (.int .i64 0)∧w'=w:=by
 rcases md_key y m h with h1|⟨h1,h2⟩|⟨h1,h2,h3|⟨h3,h4⟩⟩
 all_goals
  clear h
  go_enter Tryz.func147,Tryz.ntmps147
  go_wp2
  go_ret
  exact ⟨rfl,rfl⟩
theorem spec_md (y m:Int) (w:World) :
 Calls Tryz.prog 147 #[.int .i64 y,.int .i64 m] w fun e w'=>e=.returned (.int .i64 (mdays y m))∧Below w.heap.size w w':=by
 unfold mdays
 by_cases h:1970≤y∧y≤2200∧1≤m∧m≤12
 ·rw [if_pos h]
  obtain ⟨k,rfl⟩:∃k:Nat,m=(k:Int)+1:=⟨(m-1).toNat,by omega⟩
  exact spec_md_in y k (by omega) h.1 h.2.1 w
 ·rw [if_neg h]
  exact (spec_md_out y m h w).mono fun e w' ⟨h1,h2⟩=>⟨h1,h2 ▸ Below.refl _ _⟩
def date (y m d:Int):Value:=.agg #[.int .i64 y,.int .i64 m,.int .i64 d]
end DateR
end Go.Proofs.YtmalfhhkjdkadaaGreatDoor
