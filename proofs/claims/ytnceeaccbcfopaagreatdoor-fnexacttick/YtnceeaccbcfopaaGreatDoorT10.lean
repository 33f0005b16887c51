/-
  What a right document is: both sides say the same.
  A document that came in, read as rows.
  Engines, and answers with engines, held against each other: put together of what their parts promise; and lists of sources.
  What lies in blocks from a number on is as it was.
  The law's own copy of a list of meters, and two lists held against each other.
  The conditions stand in what each theorem says.
-/
import Derived.Test.YtnceeaccbcfopaaGreatDoorT9
set_option maxRecDepth 100000
set_option maxHeartbeats 16000000
namespace Go.Proofs.YtnceeaccbcfopaaGreatDoor
open Go.ChangeShapes Go.WideShapes Go.ChangeAt Go.RowKit
set_option linter.unusedVariables false
namespace DocR
open LinR RowG LtR
open NameR (nameB)
open CatR (Blk Blk.new)
theorem inW (n low high:Int) (w:World):Calls Tryz.prog 30 #[.int .i64 n,.int .i64 low,.int .i64 high] w fun e w'=>e=.returned (.bool (decide (low≤n∧n≤high)))∧w'=w:=by
 rcases (show (¬low≤n)∨(low≤n∧¬n≤high)∨(low≤n∧n≤high) by omega) with h|⟨h1,h2⟩|⟨h1,h2⟩
 all_goals
  go_enter Tryz.func30,Tryz.ntmps30
  go_wp2
  go_ret
  exact ⟨ret_bool (by first|(simp [*];done)|(simp;omega)),rfl⟩
theorem isW (n low high:Int) (w:World):Calls Tryz.prog 63 #[.int .i64 n,.int .i64 low,.int .i64 high] w fun e w'=>e=.returned (.bool (decide (low≤n∧n≤high)))∧w'=w:=by
 rcases (show (¬low≤n)∨(low≤n∧¬n≤high)∨(low≤n∧n≤high) by omega) with h|⟨h1,h2⟩|⟨h1,h2⟩
 all_goals
  go_enter Tryz.func63,Tryz.ntmps63
  go_wp2
  go_ret
  exact ⟨ret_bool (by first|(simp [*];done)|(simp;omega)),rfl⟩
theorem iMon (n:Int) (w:World):Calls Tryz.prog 73 #[.int .i64 n] w fun e w'=>e=.returned (.bool (decide (0≤n∧n≤2760)))∧w'=w:=by
 have H:=inW n 0 2760
 generalize decide (0≤n∧n≤2760)=b at *
 go_enter Tryz.func73,Tryz.ntmps73
 go_wp2_with (go_at_call 30;refine (H _).mono ?_;rintro e w' ⟨rfl,rfl⟩)
 go_ret
 exact ⟨rfl,rfl⟩
theorem sMon (n:Int) (w:World):Calls Tryz.prog 55 #[.int .i64 n] w fun e w'=>e=.returned (.bool (decide (0≤n∧n≤2760)))∧w'=w:=by
 have H:=isW n 0 2760
 generalize decide (0≤n∧n≤2760)=b at *
 go_enter Tryz.func55,Tryz.ntmps55
 go_wp2_with (go_at_call 63;refine (H _).mono ?_;rintro e w' ⟨rfl,rfl⟩)
 go_ret
 exact ⟨rfl,rfl⟩
def dB (x:D):Bool:=nameB x.a&&(decide (0≤x.mo∧x.mo≤2760)&&(decide (0≤x.sq∧x.sq≤1000000)&&(sB x.ls&&(decide (x.sq=0)||decide (0<x.ls.length)))))
theorem five (b1 b2 b3 b4 b5 b6:Bool):(b1=false)∨(b1=true∧b2=false)∨(b1=true∧b2=true∧b3=false)∨(b1=true∧b2=true∧b3=true∧b4=false)∨(b1=true∧b2=true∧b3=true∧b4=true∧b5=true)∨(b1=true∧b2=true∧b3=true∧b4=true∧b5=false∧b6=true)∨(b1=true∧b2=true∧b3=true∧b4=true∧b5=false∧b6=false):=by
 cases b1<;>cases b2<;>cases b3<;>cases b4<;>cases b5<;>cases b6<;>simp
theorem iright_in (a:ByteArray) (mo sq:Int) (la:Option Addr) (ll lc:Nat) (b1 b2 b3 b4 b5 b6:Bool) (w:World) (hll:ll≤1048576)
 (h1:∀W,Calls Tryz.prog 166 #[.string a] W fun e w'=>e=.returned (.bool b1)∧w'=W)
 (h2:∀W,Calls Tryz.prog 73 #[.int .i64 mo] W fun e w'=>e=.returned (.bool b2)∧w'=W)
 (h3:∀W,Calls Tryz.prog 30 #[.int .i64 sq,.int .i64 0,.int .i64 1000000] W fun e w'=>e=.returned (.bool b3)∧w'=W)
 (h4:∀W,Below w.heap.size w W→Calls Tryz.prog 199 #[.slice la ll lc] W fun e w'=>e=.returned (.bool b4)∧Below W.heap.size W w') (h5:b5=decide (sq=0)) (h6:b6=decide (0<ll)) :
 Calls Tryz.prog 168 #[.agg #[.string a,.int .i64 mo,.int .i64 sq,.slice la ll lc]] w fun e w'=>e=.returned (.bool (b1&&(b2&&(b3&&(b4&&(b5||b6))))))∧Below w.heap.size w w':=by
 have H1:=H_ h1
 have H2:=H_ h2
 have H3:=H_ h3
 have H4:=H_ h4
 clear h1 h2 h3 h4
 have HB0:Hid (Below w.heap.size w (w.alloc (.cells #[.string a,.int .i64 mo,.int .i64 sq,.slice la ll lc] 122))):=H_ (al_ _ _)
 have HX0:=H_ (Blk.new w [.string a,.int .i64 mo,.int .i64 sq,.slice la ll lc] 122)
 rcases five b1 b2 b3 b4 b5 b6 with rfl|⟨rfl,rfl⟩|⟨rfl,rfl,rfl⟩|⟨rfl,rfl,rfl,rfl⟩|⟨rfl,rfl,rfl,rfl,rfl⟩|⟨rfl,rfl,rfl,rfl,rfl,rfl⟩|⟨rfl,rfl,rfl,rfl,rfl,rfl⟩
 ·clear h5 h6
  go_enter Tryz.func168,Tryz.ntmps168
  go_wp2_with (go_at_call 166;refine (H1.out _).mono ?_;rintro e w1 ⟨rfl,rfl⟩)
  go_ret
  exact ⟨rfl,HB0.out⟩
 ·clear h5 h6
  go_enter Tryz.func168,Tryz.ntmps168
  go_wp2_with (first|(go_at_call 166;refine (H1.out _).mono ?_;rintro e w1 ⟨rfl,rfl⟩)|(go_at_call 73;refine (H2.out _).mono ?_;rintro e w1 ⟨rfl,rfl⟩)|(go_at_call 30;refine (H3.out _).mono ?_;rintro e w1 ⟨rfl,rfl⟩))
  go_ret
  exact ⟨rfl,HB0.out⟩
 ·clear h5 h6
  go_enter Tryz.func168,Tryz.ntmps168
  go_wp2_with (first|(go_at_call 166;refine (H1.out _).mono ?_;rintro e w1 ⟨rfl,rfl⟩)|(go_at_call 73;refine (H2.out _).mono ?_;rintro e w1 ⟨rfl,rfl⟩)|(go_at_call 30;refine (H3.out _).mono ?_;rintro e w1 ⟨rfl,rfl⟩))
  go_ret
  exact ⟨rfl,HB0.out⟩
 ·clear h5 h6
  go_enter Tryz.func168,Tryz.ntmps168
  go_wp2_with (first|(go_at_call 166;refine (H1.out _).mono ?_;rintro e w1 ⟨rfl,rfl⟩)|(go_at_call 73;refine (H2.out _).mono ?_;rintro e w1 ⟨rfl,rfl⟩)|(go_at_call 30;refine (H3.out _).mono ?_;rintro e w1 ⟨rfl,rfl⟩))
  refine (H4.out _ HB0.out).mono ?_
  rintro e w2 ⟨rfl,hb2⟩
  have HB2:=HT_ HB0 hb2
  obtain ⟨xl,xc⟩:=HX0.out.below hb2
  have p2:=q_ xc 2
  have p3:=q_ xc 3
  clear xc hb2
  go_wp2_with fail
  go_ret
  exact ⟨rfl,HB2.out⟩
 ·obtain rfl:sq=0:=of_decide_eq_true h5.symm
  clear h5 h6
  go_enter Tryz.func168,Tryz.ntmps168
  go_wp2_with (first|(go_at_call 166;refine (H1.out _).mono ?_;rintro e w1 ⟨rfl,rfl⟩)|(go_at_call 73;refine (H2.out _).mono ?_;rintro e w1 ⟨rfl,rfl⟩)|(go_at_call 30;refine (H3.out _).mono ?_;rintro e w1 ⟨rfl,rfl⟩))
  refine (H4.out _ HB0.out).mono ?_
  rintro e w2 ⟨rfl,hb2⟩
  have HB2:=HT_ HB0 hb2
  obtain ⟨xl,xc⟩:=HX0.out.below hb2
  have p2:=q_ xc 2
  have p3:=q_ xc 3
  clear xc hb2
  go_wp2_with fail
  go_ret
  exact ⟨rfl,HB2.out⟩
 ·have q5:¬sq=0:=of_decide_eq_false h5.symm
  have q5':(sq==0)=false:=by simpa using q5
  have HQ:Hid (decide (0<ll)=true):=H_ h6.symm
  clear h5 h6
  go_enter Tryz.func168,Tryz.ntmps168
  go_wp2_with (first|(go_at_call 166;refine (H1.out _).mono ?_;rintro e w1 ⟨rfl,rfl⟩)|(go_at_call 73;refine (H2.out _).mono ?_;rintro e w1 ⟨rfl,rfl⟩)|(go_at_call 30;refine (H3.out _).mono ?_;rintro e w1 ⟨rfl,rfl⟩))
  refine (H4.out _ HB0.out).mono ?_
  rintro e w2 ⟨rfl,hb2⟩
  have HB2:=HT_ HB0 hb2
  obtain ⟨xl,xc⟩:=HX0.out.below hb2
  have p2:=q_ xc 2
  have p3:=q_ xc 3
  clear xc hb2
  go_wp2_with fail
  go_ret
  exact ⟨ret_bool HQ.out,HB2.out⟩
 ·have q5:¬sq=0:=of_decide_eq_false h5.symm
  have q5':(sq==0)=false:=by simpa using q5
  have HQ:Hid (decide (0<ll)=false):=H_ h6.symm
  clear h5 h6
  go_enter Tryz.func168,Tryz.ntmps168
  go_wp2_with (first|(go_at_call 166;refine (H1.out _).mono ?_;rintro e w1 ⟨rfl,rfl⟩)|(go_at_call 73;refine (H2.out _).mono ?_;rintro e w1 ⟨rfl,rfl⟩)|(go_at_call 30;refine (H3.out _).mono ?_;rintro e w1 ⟨rfl,rfl⟩))
  refine (H4.out _ HB0.out).mono ?_
  rintro e w2 ⟨rfl,hb2⟩
  have HB2:=HT_ HB0 hb2
  obtain ⟨xl,xc⟩:=HX0.out.below hb2
  have p2:=q_ xc 2
  have p3:=q_ xc 3
  clear xc hb2
  go_wp2_with fail
  go_ret
  exact ⟨ret_bool HQ.out,HB2.out⟩
theorem sright_in (a:ByteArray) (mo sq:Int) (la:Option Addr) (ll lc:Nat) (b1 b2 b3 b4 b5 b6:Bool) (w:World) (hll:ll≤1048576)
 (h1:∀W,Calls Tryz.prog 104 #[.string a] W fun e w'=>e=.returned (.bool b1)∧w'=W)
 (h2:∀W,Calls Tryz.prog 55 #[.int .i64 mo] W fun e w'=>e=.returned (.bool b2)∧w'=W)
 (h3:∀W,Calls Tryz.prog 63 #[.int .i64 sq,.int .i64 0,.int .i64 1000000] W fun e w'=>e=.returned (.bool b3)∧w'=W)
 (h4:∀W,Below w.heap.size w W→Calls Tryz.prog 152 #[.slice la ll lc] W fun e w'=>e=.returned (.bool b4)∧Below W.heap.size W w') (h5:b5=decide (sq=0)) (h6:b6=decide (0<ll)) :
 Calls Tryz.prog 106 #[.agg #[.string a,.int .i64 mo,.int .i64 sq,.slice la ll lc]] w fun e w'=>e=.returned (.bool (b1&&(b2&&(b3&&(b4&&(b5||b6))))))∧Below w.heap.size w w':=by
 have H1:=H_ h1
 have H2:=H_ h2
 have H3:=H_ h3
 have H4:=H_ h4
 clear h1 h2 h3 h4
 have HB0:Hid (Below w.heap.size w (w.alloc (.cells #[.string a,.int .i64 mo,.int .i64 sq,.slice la ll lc] 122))):=H_ (al_ _ _)
 have HX0:=H_ (Blk.new w [.string a,.int .i64 mo,.int .i64 sq,.slice la ll lc] 122)
 rcases five b1 b2 b3 b4 b5 b6 with rfl|⟨rfl,rfl⟩|⟨rfl,rfl,rfl⟩|⟨rfl,rfl,rfl,rfl⟩|⟨rfl,rfl,rfl,rfl,rfl⟩|⟨rfl,rfl,rfl,rfl,rfl,rfl⟩|⟨rfl,rfl,rfl,rfl,rfl,rfl⟩
 ·clear h5 h6
  go_enter Tryz.func106,Tryz.ntmps106
  go_wp2_with (go_at_call 104;refine (H1.out _).mono ?_;rintro e w1 ⟨rfl,rfl⟩)
  go_ret
  exact ⟨rfl,HB0.out⟩
 ·clear h5 h6
  go_enter Tryz.func106,Tryz.ntmps106
  go_wp2_with (first|(go_at_call 104;refine (H1.out _).mono ?_;rintro e w1 ⟨rfl,rfl⟩)|(go_at_call 55;refine (H2.out _).mono ?_;rintro e w1 ⟨rfl,rfl⟩)|(go_at_call 63;refine (H3.out _).mono ?_;rintro e w1 ⟨rfl,rfl⟩))
  go_ret
  exact ⟨rfl,HB0.out⟩
 ·clear h5 h6
  go_enter Tryz.func106,Tryz.ntmps106
  go_wp2_with (first|(go_at_call 104;refine (H1.out _).mono ?_;rintro e w1 ⟨rfl,rfl⟩)|(go_at_call 55;refine (H2.out _).mono ?_;rintro e w1 ⟨rfl,rfl⟩)|(go_at_call 63;refine (H3.out _).mono ?_;rintro e w1 ⟨rfl,rfl⟩))
  go_ret
  exact ⟨rfl,HB0.out⟩
 ·clear h5 h6
  go_enter Tryz.func106,Tryz.ntmps106
  go_wp2_with (first|(go_at_call 104;refine (H1.out _).mono ?_;rintro e w1 ⟨rfl,rfl⟩)|(go_at_call 55;refine (H2.out _).mono ?_;rintro e w1 ⟨rfl,rfl⟩)|(go_at_call 63;refine (H3.out _).mono ?_;rintro e w1 ⟨rfl,rfl⟩))
  refine (H4.out _ HB0.out).mono ?_
  rintro e w2 ⟨rfl,hb2⟩
  have HB2:=HT_ HB0 hb2
  obtain ⟨xl,xc⟩:=HX0.out.below hb2
  have p2:=q_ xc 2
  have p3:=q_ xc 3
  clear xc hb2
  go_wp2_with fail
  go_ret
  exact ⟨rfl,HB2.out⟩
 ·obtain rfl:sq=0:=of_decide_eq_true h5.symm
  clear h5 h6
  go_enter Tryz.func106,Tryz.ntmps106
  go_wp2_with (first|(go_at_call 104;refine (H1.out _).mono ?_;rintro e w1 ⟨rfl,rfl⟩)|(go_at_call 55;refine (H2.out _).mono ?_;rintro e w1 ⟨rfl,rfl⟩)|(go_at_call 63;refine (H3.out _).mono ?_;rintro e w1 ⟨rfl,rfl⟩))
  refine (H4.out _ HB0.out).mono ?_
  rintro e w2 ⟨rfl,hb2⟩
  have HB2:=HT_ HB0 hb2
  obtain ⟨xl,xc⟩:=HX0.out.below hb2
  have p2:=q_ xc 2
  have p3:=q_ xc 3
  clear xc hb2
  go_wp2_with fail
  go_ret
  exact ⟨rfl,HB2.out⟩
 ·have q5:¬sq=0:=of_decide_eq_false h5.symm
  have q5':(sq==0)=false:=by simpa using q5
  have HQ:Hid (decide (0<ll)=true):=H_ h6.symm
  clear h5 h6
  go_enter Tryz.func106,Tryz.ntmps106
  go_wp2_with (first|(go_at_call 104;refine (H1.out _).mono ?_;rintro e w1 ⟨rfl,rfl⟩)|(go_at_call 55;refine (H2.out _).mono ?_;rintro e w1 ⟨rfl,rfl⟩)|(go_at_call 63;refine (H3.out _).mono ?_;rintro e w1 ⟨rfl,rfl⟩))
  refine (H4.out _ HB0.out).mono ?_
  rintro e w2 ⟨rfl,hb2⟩
  have HB2:=HT_ HB0 hb2
  obtain ⟨xl,xc⟩:=HX0.out.below hb2
  have p2:=q_ xc 2
  have p3:=q_ xc 3
  clear xc hb2
  go_wp2_with fail
  go_ret
  exact ⟨ret_bool HQ.out,HB2.out⟩
 ·have q5:¬sq=0:=of_decide_eq_false h5.symm
  have q5':(sq==0)=false:=by simpa using q5
  have HQ:Hid (decide (0<ll)=false):=H_ h6.symm
  clear h5 h6
  go_enter Tryz.func106,Tryz.ntmps106
  go_wp2_with (first|(go_at_call 104;refine (H1.out _).mono ?_;rintro e w1 ⟨rfl,rfl⟩)|(go_at_call 55;refine (H2.out _).mono ?_;rintro e w1 ⟨rfl,rfl⟩)|(go_at_call 63;refine (H3.out _).mono ?_;rintro e w1 ⟨rfl,rfl⟩))
  refine (H4.out _ HB0.out).mono ?_
  rintro e w2 ⟨rfl,hb2⟩
  have HB2:=HT_ HB0 hb2
  obtain ⟨xl,xc⟩:=HX0.out.below hb2
  have p2:=q_ xc 2
  have p3:=q_ xc 3
  clear xc hb2
  go_wp2_with fail
  go_ret
  exact ⟨ret_bool HQ.out,HB2.out⟩
theorem impl_doc (x:D) (la:Option Addr) (lc:Nat) (w:World) (h:x.Sm) (hL:Lis la x.ls w):Calls Tryz.prog 168 #[.agg (dcells x la lc)] w fun e w'=>e=.returned (.bool (dB x))∧Below w.heap.size w w' :=
 iright_in x.a x.mo x.sq la x.ls.length lc _ _ _ _ _ _ w h.2.1 (fun W=>NameR.impl_any x.a W h.1) (fun W=>iMon x.mo W) (fun W=>inW x.sq 0 1000000 W) (fun W hW=>impl_lines la lc x.ls W h.2.1 h.2.2 (hL.below hW)) rfl rfl
theorem spec_doc (x:D) (la:Option Addr) (lc:Nat) (w:World) (h:x.Sm) (hL:Lis la x.ls w):Calls Tryz.prog 106 #[.agg (dcells x la lc)] w fun e w'=>e=.returned (.bool (dB x))∧Below w.heap.size w w' :=
 sright_in x.a x.mo x.sq la x.ls.length lc _ _ _ _ _ _ w h.2.1 (fun W=>NameR.spec_any x.a W h.1) (fun W=>sMon x.mo W) (fun W=>isW x.sq 0 1000000 W) (fun W hW=>spec_lines la lc x.ls W h.2.1 h.2.2 (hL.below hW)) rfl rfl
end DocR
end Go.Proofs.YtnceeaccbcfopaaGreatDoor
namespace Go.Proofs.YtnceeaccbcfopaaGreatDoor
open Go.ChangeShapes Go.WideShapes Go.ChangeAt Go.RowKit Go.Deep
set_option linter.unusedVariables false
namespace DocR
open RowG LinR
section
variable {J:Type} {enc:TypeId × Value→J} {P:Program} {w:World} {base:Nat} {spare:Nat→Bool} {held:Bool}
theorem lst4 {α:Type} {cs:List α} (h:cs.length=4):∃c0 c1 c2 c3,cs=[c0,c1,c2,c3]:=by
 match cs,h with
 | [c0,c1,c2,c3],_=>exact ⟨c0,c1,c2,c3,rfl⟩
theorem slice_one {t e:TypeId} {fuel:Nat} {c:Value} {x:DataW J × List MemPlace} (ht:P.underlying t=some (.slice e)) (h:DataW.trod enc P w base spare held fuel t [c]=some x):∃ao len cap,c=.slice ao len cap:=by
 rcases DataW.trod_slice ht h with ⟨hcs,_⟩|⟨a,len',cap',elems,rest,n,_,hcs,_⟩
 ·simp only [List.cons.injEq,and_true] at hcs
  exact ⟨_,_,_,hcs⟩
 ·simp only [List.cons.injEq,and_true] at hcs
  exact ⟨_,_,_,hcs⟩
theorem doc_open {t te:TypeId} {f0 f1 f2 f3 g0 g1:Field} {fuel:Nat} {cs:List Value} {x:DataW J × List MemPlace} (hs:P.underlying t=some (.struct #[f0,f1,f2,f3])) (hone:oneCellFields P #[f0,f1,f2,f3]=true) (hC:P.cellsOf t=4)
 (u0:P.underlying f0.type=some .string) (u1:P.underlying f1.type=some (.int .i64)) (u2:P.underlying f2.type=some (.int .i64)) (u3:P.underlying f3.type=some (.slice te))
 (hs2:P.underlying te=some (.struct #[g0,g1])) (hone2:oneCellFields P #[g0,g1]=true) (hC2:P.cellsOf te=2) (v0:P.underlying g0.type=some .string) (v1:P.underlying g1.type=some (.int .i64))
 (h:DataW.trod enc P w base spare held fuel t cs=some x) :
 ∃(x:D) (la:Option Addr) (lc:Nat),cs=(dcells x la lc).toList∧x.In∧Lis la x.ls w:=by
 obtain ⟨xs,n,_,_,hl,hlen,hf⟩:=DataW.trod_struct hs h
 obtain ⟨c0,c1,c2,c3,rfl⟩:=lst4 (hl.trans hC)
 obtain ⟨y0,y1,y2,y3,rfl⟩:=lst4 (show xs.length=4 from hlen)
 obtain ⟨o0,k0⟩:=hone_of hone 0 f0 rfl
 obtain ⟨o1,k1⟩:=hone_of hone 1 f1 rfl
 obtain ⟨o2,k2⟩:=hone_of hone 2 f2 rfl
 obtain ⟨o3,k3⟩:=hone_of hone 3 f3 rfl
 have h0:=hf 0 f0 rfl
 have h1:=hf 1 f1 rfl
 have h2:=hf 2 f2 rfl
 have h3:=hf 3 f3 rfl
 simp [o0,k0] at h0
 simp [o1,k1] at h1
 simp [o2,k2] at h2
 simp [o3,k3] at h3
 obtain ⟨a,e0,_,s0⟩:=DataW.trod_string u0 h0
 obtain ⟨p,e1,_,_⟩:=DataW.trod_int u1 h1
 obtain ⟨q,e2,_,_⟩:=DataW.trod_int u2 h2
 obtain ⟨la,ll,lc,rfl⟩:=slice_one u3 h3
 obtain ⟨ls,rfl,q1,q2,q3⟩:=lis_open u3 hs2 hone2 hC2 v0 v1 h3
 simp only [List.cons.injEq,and_true] at e0 e1 e2
 subst e0 e1 e2
 exact ⟨⟨a,p,q,ls⟩,la,lc,rfl,⟨s0,q1,q3⟩,q2⟩
end
end DocR
end Go.Proofs.YtnceeaccbcfopaaGreatDoor
namespace Go.Proofs.YtnceeaccbcfopaaGreatDoor
open Go.ChangeShapes Go.WideShapes Go.ChangeAt Go.RowKit
set_option linter.unusedVariables false
namespace CatR
open EvtR (Pt cell_put cell_far)
open RowG (H_)
theorem eqSr_any (u:ByteArray) (p:Int) (w:World):Calls Tryz.prog 84 #[.agg #[.string u,.int .i64 p],.agg #[.string u,.int .i64 p]] w fun e w'=>e=.returned (.bool true)∧Below w.heap.size w w':=by
 go_enter Tryz.func84,Tryz.ntmps84
 go_wp2
 go_ret
 refine ⟨rfl,?_⟩
 repeat' first|exact Below.refl _ _|apply Below.setCell|apply Below.alloc
 all_goals first|omega|(simp;done)|(simp;omega)
theorem eqSrs_any (ao bo:Option Addr) (len cap cap':Nat) (ts:List Cr) (w:World) (hlen:len≤1048576) (hI:Crs ao len ts w) (hJ:Crs bo len ts w) :
 Calls Tryz.prog 35 #[.slice ao len cap,.slice bo len cap'] w fun e w'=>e=.returned (.bool true)∧Below w.heap.size w w':=by
 have HI:=H_ hI
 have HJ:=H_ hJ
 clear hI hJ
 go_enter Tryz.func35,Tryz.ntmps35
 go_wp2_with fail
 go_loopw [5] (fun z wr=>∃k:Nat,k≤len∧z=.int .i64 k∧Hid (Below w.heap.size w wr)) (fun z _=>len-(intOf z).toNat)
 case atStart=>exact ⟨0,by omega,rfl,H_ (Below.refl _ _)⟩
 case round =>
  obtain ⟨k,hk,rfl,HW⟩:=hrel
  by_cases hlt:k<len
  ·have hlt2:(k:Int)<(len:Int):=by omega
   obtain ⟨b,off,rfl,_,c0,c1⟩:=crs_at (HI.out.below HW.out) k hlt
   obtain ⟨b',off',rfl,_,e0,e1⟩:=crs_at (HJ.out.below HW.out) k hlt
   generalize ts.getD k Cr.zero=X at *
   obtain ⟨u,p⟩:=X
   have HC:=H_ (fun w=>eqSr_any u p w)
   go_wp2_with fail
   go_region_with (go_at_call 84;refine (HC.out _).mono ?_;rintro e w1 ⟨rfl,hb⟩)
   all_goals (
    have HB1:=H_ (HW.out.drew.trans (hb.mono HW.out.drew.size))
    clear hb c0 c1 e0 e1
    go_wp2_with fail
    go_roundw
    case rel=>exact ⟨k+1,by omega,by go_num,HB1⟩
    case measure=>simp [intOf];omega)
  ·have hlt2:¬(k:Int)<(len:Int):=by omega
   go_wp2_with fail
   go_ret
   exact ⟨rfl,HW.out⟩
theorem eqDcs0 (ao bo:Option Addr) (cap cap':Nat) (w:World):Calls Tryz.prog 33 #[.slice ao 0 cap,.slice bo 0 cap'] w fun e w'=>e=.returned (.bool true)∧Below w.heap.size w w':=by
 go_enter Tryz.func33,Tryz.ntmps33
 go_wp2_with fail
 go_loopw [5] (fun z wr=>z=.int .i64 0∧Hid (Below w.heap.size w wr)) (fun z _=>0)
 case atStart=>exact ⟨rfl,H_ (Below.refl _ _)⟩
 case round =>
  obtain ⟨rfl,HB⟩:=hrel
  go_wp2_with fail
  go_ret
  exact ⟨rfl,HB.out⟩
theorem eqCnt (c0 c1 c2 c3 c4:Int) (w:World):Calls Tryz.prog 32 #[.agg #[.int .i64 c0,.int .i64 c1,.int .i64 c2,.int .i64 c3,.int .i64 c4],.agg #[.int .i64 c0,.int .i64 c1,.int .i64 c2,.int .i64 c3,.int .i64 c4]] w fun e w'=>e=.returned (.bool true)∧Below w.heap.size w w':=by
 go_enter Tryz.func32,Tryz.ntmps32
 go_wp2
 go_ret
 refine ⟨rfl,?_⟩
 repeat' first|exact Below.refl _ _|apply Below.setCell|apply Below.alloc
 all_goals first|omega|(simp;done)|(simp;omega)
theorem eqEng (ma ma':Option Addr) (ml mc mc':Nat) (ca ca':Option Addr) (cl cc cc':Nat) (sa sa':Option Addr) (sl sc sc':Nat) (na na':Option Addr) (nl nc nc':Nat) (ua ua':Option Addr) (ul uc uc':Nat) (da da':Option Addr) (dl dc dc':Nat) (fr:Int) (w:World)
 (h0:∀W,Below w.heap.size w W→Calls Tryz.prog 34 #[.agg #[.slice ma ml mc,.slice ca cl cc],.agg #[.slice ma' ml mc',.slice ca' cl cc']] W fun e w'=>e=.returned (.bool true)∧Below W.heap.size W w')
 (h1:∀W,Below w.heap.size w W→Calls Tryz.prog 35 #[.slice sa sl sc,.slice sa' sl sc'] W fun e w'=>e=.returned (.bool true)∧Below W.heap.size W w')
 (h2:∀W,Below w.heap.size w W→Calls Tryz.prog 36 #[.slice na nl nc,.slice na' nl nc'] W fun e w'=>e=.returned (.bool true)∧Below W.heap.size W w')
 (h3:∀W,Below w.heap.size w W→Calls Tryz.prog 37 #[.slice ua ul uc,.slice ua' ul uc'] W fun e w'=>e=.returned (.bool true)∧Below W.heap.size W w')
 (h4:∀W,Below w.heap.size w W→Calls Tryz.prog 33 #[.slice da dl dc,.slice da' dl dc'] W fun e w'=>e=.returned (.bool true)∧Below W.heap.size W w') :
 Calls Tryz.prog 9 #[.agg #[.slice ma ml mc,.slice ca cl cc,.slice sa sl sc,.slice na nl nc,.slice ua ul uc,.slice da dl dc,.int .i64 fr],.agg #[.slice ma' ml mc',.slice ca' cl cc',.slice sa' sl sc',.slice na' nl nc',.slice ua' ul uc',.slice da' dl dc',.int .i64 fr]] w fun e w'=>e=.returned (.bool true)∧Below w.heap.size w w':=by
 have H0:=H_ h0
 have H1:=H_ h1
 have H2:=H_ h2
 have H3:=H_ h3
 have H4:=H_ h4
 clear h0 h1 h2 h3 h4
 obtain ⟨W0,hW0⟩:∃W0,W0=(w.alloc (.cells #[.slice ma ml mc,.slice ca cl cc,.slice sa sl sc,.slice na nl nc,.slice ua ul uc,.slice da dl dc,.int .i64 fr] 42)).alloc (.cells #[.slice ma' ml mc',.slice ca' cl cc',.slice sa' sl sc',.slice na' nl nc',.slice ua' ul uc',.slice da' dl dc',.int .i64 fr] 42):=⟨_,rfl⟩
 have B0:Hid (Below w.heap.size w W0):=H_ (by rw [hW0];exact (al_ _ _).alloc (by simp) _)
 have X0:Hid (Blk w.heap.size [.slice ma ml mc,.slice ca cl cc,.slice sa sl sc,.slice na nl nc,.slice ua ul uc,.slice da dl dc,.int .i64 fr] W0):=H_ (by rw [hW0];exact (Blk.new w [.slice ma ml mc,.slice ca cl cc,.slice sa sl sc,.slice na nl nc,.slice ua ul uc,.slice da dl dc,.int .i64 fr] 42).below (al_ _ _))
 have Y0:Hid (Blk (w.heap.size+1) [.slice ma' ml mc',.slice ca' cl cc',.slice sa' sl sc',.slice na' nl nc',.slice ua' ul uc',.slice da' dl dc',.int .i64 fr] W0):=H_ (by
  rw [hW0]
  obtain ⟨X,hX⟩:∃X,X=w.alloc (.cells #[.slice ma ml mc,.slice ca cl cc,.slice sa sl sc,.slice na nl nc,.slice ua ul uc,.slice da dl dc,.int .i64 fr] 42):=⟨_,rfl⟩
  have e:X.heap.size=w.heap.size+1:=by rw [hX];simp
  rw [←hX,←e]
  exact Blk.new X [.slice ma' ml mc',.slice ca' cl cc',.slice sa' sl sc',.slice na' nl nc',.slice ua' ul uc',.slice da' dl dc',.int .i64 fr] 42)
 have HW:=H_ hW0
 clear hW0
 go_enter Tryz.func9,Tryz.ntmps9
 go_wp2_with fail
 rw [←HW.out]
 clear HW
 refine (H0.out _ B0.out).mono ?_
 rintro e w1 ⟨rfl,hb⟩
 have B1:=HT_ B0 hb
 have X1:=H_ (X0.out.below hb)
 have Y1:=H_ (Y0.out.below hb)
 clear hb B0 X0 Y0
 have xl:=X1.out.1
 have yl:=Y1.out.1
 have x0:=q_ X1.out.2 0
 have y0:=q_ Y1.out.2 0
 have x1:=q_ X1.out.2 1
 have y1:=q_ Y1.out.2 1
 have x2:=q_ X1.out.2 2
 have y2:=q_ Y1.out.2 2
 have x3:=q_ X1.out.2 3
 have y3:=q_ Y1.out.2 3
 have x4:=q_ X1.out.2 4
 have y4:=q_ Y1.out.2 4
 have x5:=q_ X1.out.2 5
 have y5:=q_ Y1.out.2 5
 have x6:=q_ X1.out.2 6
 have y6:=q_ Y1.out.2 6
 go_wp2_with fail
 refine (H1.out _ B1.out).mono ?_
 rintro e w2 ⟨rfl,hb⟩
 clear xl yl x0 y0 x1 y1 x2 y2 x3 y3 x4 y4 x5 y5 x6 y6
 have B2:=HT_ B1 hb
 have X2:=H_ (X1.out.below hb)
 have Y2:=H_ (Y1.out.below hb)
 clear hb B1 X1 Y1
 have xl:=X2.out.1
 have yl:=Y2.out.1
 have x0:=q_ X2.out.2 0
 have y0:=q_ Y2.out.2 0
 have x1:=q_ X2.out.2 1
 have y1:=q_ Y2.out.2 1
 have x2:=q_ X2.out.2 2
 have y2:=q_ Y2.out.2 2
 have x3:=q_ X2.out.2 3
 have y3:=q_ Y2.out.2 3
 have x4:=q_ X2.out.2 4
 have y4:=q_ Y2.out.2 4
 have x5:=q_ X2.out.2 5
 have y5:=q_ Y2.out.2 5
 have x6:=q_ X2.out.2 6
 have y6:=q_ Y2.out.2 6
 go_wp2_with fail
 refine (H2.out _ B2.out).mono ?_
 rintro e w3 ⟨rfl,hb⟩
 clear xl yl x0 y0 x1 y1 x2 y2 x3 y3 x4 y4 x5 y5 x6 y6
 have B3:=HT_ B2 hb
 have X3:=H_ (X2.out.below hb)
 have Y3:=H_ (Y2.out.below hb)
 clear hb B2 X2 Y2
 have xl:=X3.out.1
 have yl:=Y3.out.1
 have x0:=q_ X3.out.2 0
 have y0:=q_ Y3.out.2 0
 have x1:=q_ X3.out.2 1
 have y1:=q_ Y3.out.2 1
 have x2:=q_ X3.out.2 2
 have y2:=q_ Y3.out.2 2
 have x3:=q_ X3.out.2 3
 have y3:=q_ Y3.out.2 3
 have x4:=q_ X3.out.2 4
 have y4:=q_ Y3.out.2 4
 have x5:=q_ X3.out.2 5
 have y5:=q_ Y3.out.2 5
 have x6:=q_ X3.out.2 6
 have y6:=q_ Y3.out.2 6
 go_wp2_with fail
 refine (H3.out _ B3.out).mono ?_
 rintro e w4 ⟨rfl,hb⟩
 clear xl yl x0 y0 x1 y1 x2 y2 x3 y3 x4 y4 x5 y5 x6 y6
 have B4:=HT_ B3 hb
 have X4:=H_ (X3.out.below hb)
 have Y4:=H_ (Y3.out.below hb)
 clear hb B3 X3 Y3
 have xl:=X4.out.1
 have yl:=Y4.out.1
 have x0:=q_ X4.out.2 0
 have y0:=q_ Y4.out.2 0
 have x1:=q_ X4.out.2 1
 have y1:=q_ Y4.out.2 1
 have x2:=q_ X4.out.2 2
 have y2:=q_ Y4.out.2 2
 have x3:=q_ X4.out.2 3
 have y3:=q_ Y4.out.2 3
 have x4:=q_ X4.out.2 4
 have y4:=q_ Y4.out.2 4
 have x5:=q_ X4.out.2 5
 have y5:=q_ Y4.out.2 5
 have x6:=q_ X4.out.2 6
 have y6:=q_ Y4.out.2 6
 go_wp2_with fail
 refine (H4.out _ B4.out).mono ?_
 rintro e w5 ⟨rfl,hb⟩
 clear xl yl x0 y0 x1 y1 x2 y2 x3 y3 x4 y4 x5 y5 x6 y6
 have B5:=HT_ B4 hb
 have X5:=H_ (X4.out.below hb)
 have Y5:=H_ (Y4.out.below hb)
 clear hb B4 X4 Y4
 have xl:=X5.out.1
 have yl:=Y5.out.1
 have x0:=q_ X5.out.2 0
 have y0:=q_ Y5.out.2 0
 have x1:=q_ X5.out.2 1
 have y1:=q_ Y5.out.2 1
 have x2:=q_ X5.out.2 2
 have y2:=q_ Y5.out.2 2
 have x3:=q_ X5.out.2 3
 have y3:=q_ Y5.out.2 3
 have x4:=q_ X5.out.2 4
 have y4:=q_ Y5.out.2 4
 have x5:=q_ X5.out.2 5
 have y5:=q_ Y5.out.2 5
 have x6:=q_ X5.out.2 6
 have y6:=q_ Y5.out.2 6
 go_wp2_with fail
 go_ret
 exact ⟨rfl,B5.out⟩
theorem eqEout (ma ma':Option Addr) (ml mc mc':Nat) (ca ca':Option Addr) (cl cc cc':Nat) (sa sa':Option Addr) (sl sc sc':Nat) (na na':Option Addr) (nl nc nc':Nat) (ua ua':Option Addr) (ul uc uc':Nat) (da da':Option Addr) (dl dc dc':Nat) (oa oa':Option Addr) (ol oc oc':Nat) (fr c0 c1 c2 c3 c4 cd:Int) (w:World)
 (h0:∀W,Below w.heap.size w W→Calls Tryz.prog 9 #[.agg #[.slice ma ml mc,.slice ca cl cc,.slice sa sl sc,.slice na nl nc,.slice ua ul uc,.slice da dl dc,.int .i64 fr],.agg #[.slice ma' ml mc',.slice ca' cl cc',.slice sa' sl sc',.slice na' nl nc',.slice ua' ul uc',.slice da' dl dc',.int .i64 fr]] W fun e w'=>e=.returned (.bool true)∧Below W.heap.size W w')
 (h1:∀W,Below w.heap.size w W→Calls Tryz.prog 32 #[.agg #[.int .i64 c0,.int .i64 c1,.int .i64 c2,.int .i64 c3,.int .i64 c4],.agg #[.int .i64 c0,.int .i64 c1,.int .i64 c2,.int .i64 c3,.int .i64 c4]] W fun e w'=>e=.returned (.bool true)∧Below W.heap.size W w')
 (h2:∀W,Below w.heap.size w W→Calls Tryz.prog 33 #[.slice oa ol oc,.slice oa' ol oc'] W fun e w'=>e=.returned (.bool true)∧Below W.heap.size W w') :
 Calls Tryz.prog 8 #[.agg #[.slice ma ml mc,.slice ca cl cc,.slice sa sl sc,.slice na nl nc,.slice ua ul uc,.slice da dl dc,.int .i64 fr,.int .i64 c0,.int .i64 c1,.int .i64 c2,.int .i64 c3,.int .i64 c4,.slice oa ol oc,.int .i64 cd],.agg #[.slice ma' ml mc',.slice ca' cl cc',.slice sa' sl sc',.slice na' nl nc',.slice ua' ul uc',.slice da' dl dc',.int .i64 fr,.int .i64 c0,.int .i64 c1,.int .i64 c2,.int .i64 c3,.int .i64 c4,.slice oa' ol oc',.int .i64 cd]] w fun e w'=>e=.returned (.bool true)∧Below w.heap.size w w':=by
 have H0:=H_ h0
 have H1:=H_ h1
 have H2:=H_ h2
 clear h0 h1 h2
 obtain ⟨W0,hW0⟩:∃W0,W0=(w.alloc (.cells #[.slice ma ml mc,.slice ca cl cc,.slice sa sl sc,.slice na nl nc,.slice ua ul uc,.slice da dl dc,.int .i64 fr,.int .i64 c0,.int .i64 c1,.int .i64 c2,.int .i64 c3,.int .i64 c4,.slice oa ol oc,.int .i64 cd] 46)).alloc (.cells #[.slice ma' ml mc',.slice ca' cl cc',.slice sa' sl sc',.slice na' nl nc',.slice ua' ul uc',.slice da' dl dc',.int .i64 fr,.int .i64 c0,.int .i64 c1,.int .i64 c2,.int .i64 c3,.int .i64 c4,.slice oa' ol oc',.int .i64 cd] 46):=⟨_,rfl⟩
 have B0:Hid (Below w.heap.size w W0):=H_ (by rw [hW0];exact (al_ _ _).alloc (by simp) _)
 have X0:Hid (Blk w.heap.size [.slice ma ml mc,.slice ca cl cc,.slice sa sl sc,.slice na nl nc,.slice ua ul uc,.slice da dl dc,.int .i64 fr,.int .i64 c0,.int .i64 c1,.int .i64 c2,.int .i64 c3,.int .i64 c4,.slice oa ol oc,.int .i64 cd] W0):=H_ (by rw [hW0];exact (Blk.new w [.slice ma ml mc,.slice ca cl cc,.slice sa sl sc,.slice na nl nc,.slice ua ul uc,.slice da dl dc,.int .i64 fr,.int .i64 c0,.int .i64 c1,.int .i64 c2,.int .i64 c3,.int .i64 c4,.slice oa ol oc,.int .i64 cd] 46).below (al_ _ _))
 have Y0:Hid (Blk (w.heap.size+1) [.slice ma' ml mc',.slice ca' cl cc',.slice sa' sl sc',.slice na' nl nc',.slice ua' ul uc',.slice da' dl dc',.int .i64 fr,.int .i64 c0,.int .i64 c1,.int .i64 c2,.int .i64 c3,.int .i64 c4,.slice oa' ol oc',.int .i64 cd] W0):=H_ (by
  rw [hW0]
  obtain ⟨X,hX⟩:∃X,X=w.alloc (.cells #[.slice ma ml mc,.slice ca cl cc,.slice sa sl sc,.slice na nl nc,.slice ua ul uc,.slice da dl dc,.int .i64 fr,.int .i64 c0,.int .i64 c1,.int .i64 c2,.int .i64 c3,.int .i64 c4,.slice oa ol oc,.int .i64 cd] 46):=⟨_,rfl⟩
  have e:X.heap.size=w.heap.size+1:=by rw [hX];simp
  rw [←hX,←e]
  exact Blk.new X [.slice ma' ml mc',.slice ca' cl cc',.slice sa' sl sc',.slice na' nl nc',.slice ua' ul uc',.slice da' dl dc',.int .i64 fr,.int .i64 c0,.int .i64 c1,.int .i64 c2,.int .i64 c3,.int .i64 c4,.slice oa' ol oc',.int .i64 cd] 46)
 have HW:=H_ hW0
 clear hW0
 go_enter Tryz.func8,Tryz.ntmps8
 go_wp2_with fail
 rw [←HW.out]
 clear HW
 refine (H0.out _ B0.out).mono ?_
 rintro e w1 ⟨rfl,hb⟩
 have B1:=HT_ B0 hb
 have X1:=H_ (X0.out.below hb)
 have Y1:=H_ (Y0.out.below hb)
 clear hb B0 X0 Y0
 have xl:=X1.out.1
 have yl:=Y1.out.1
 have x0:=q_ X1.out.2 0
 have y0:=q_ Y1.out.2 0
 have x1:=q_ X1.out.2 1
 have y1:=q_ Y1.out.2 1
 have x2:=q_ X1.out.2 2
 have y2:=q_ Y1.out.2 2
 have x3:=q_ X1.out.2 3
 have y3:=q_ Y1.out.2 3
 have x4:=q_ X1.out.2 4
 have y4:=q_ Y1.out.2 4
 have x5:=q_ X1.out.2 5
 have y5:=q_ Y1.out.2 5
 have x6:=q_ X1.out.2 6
 have y6:=q_ Y1.out.2 6
 have x7:=q_ X1.out.2 7
 have y7:=q_ Y1.out.2 7
 have x8:=q_ X1.out.2 8
 have y8:=q_ Y1.out.2 8
 have x9:=q_ X1.out.2 9
 have y9:=q_ Y1.out.2 9
 have x10:=q_ X1.out.2 10
 have y10:=q_ Y1.out.2 10
 have x11:=q_ X1.out.2 11
 have y11:=q_ Y1.out.2 11
 have x12:=q_ X1.out.2 12
 have y12:=q_ Y1.out.2 12
 have x13:=q_ X1.out.2 13
 have y13:=q_ Y1.out.2 13
 go_wp2_with fail
 refine (H1.out _ B1.out).mono ?_
 rintro e w2 ⟨rfl,hb⟩
 clear xl yl x0 y0 x1 y1 x2 y2 x3 y3 x4 y4 x5 y5 x6 y6 x7 y7 x8 y8 x9 y9 x10 y10 x11 y11 x12 y12 x13 y13
 have B2:=HT_ B1 hb
 have X2:=H_ (X1.out.below hb)
 have Y2:=H_ (Y1.out.below hb)
 clear hb B1 X1 Y1
 have xl:=X2.out.1
 have yl:=Y2.out.1
 have x0:=q_ X2.out.2 0
 have y0:=q_ Y2.out.2 0
 have x1:=q_ X2.out.2 1
 have y1:=q_ Y2.out.2 1
 have x2:=q_ X2.out.2 2
 have y2:=q_ Y2.out.2 2
 have x3:=q_ X2.out.2 3
 have y3:=q_ Y2.out.2 3
 have x4:=q_ X2.out.2 4
 have y4:=q_ Y2.out.2 4
 have x5:=q_ X2.out.2 5
 have y5:=q_ Y2.out.2 5
 have x6:=q_ X2.out.2 6
 have y6:=q_ Y2.out.2 6
 have x7:=q_ X2.out.2 7
 have y7:=q_ Y2.out.2 7
 have x8:=q_ X2.out.2 8
 have y8:=q_ Y2.out.2 8
 have x9:=q_ X2.out.2 9
 have y9:=q_ Y2.out.2 9
 have x10:=q_ X2.out.2 10
 have y10:=q_ Y2.out.2 10
 have x11:=q_ X2.out.2 11
 have y11:=q_ Y2.out.2 11
 have x12:=q_ X2.out.2 12
 have y12:=q_ Y2.out.2 12
 have x13:=q_ X2.out.2 13
 have y13:=q_ Y2.out.2 13
 go_wp2_with fail
 refine (H2.out _ B2.out).mono ?_
 rintro e w3 ⟨rfl,hb⟩
 clear xl yl x0 y0 x1 y1 x2 y2 x3 y3 x4 y4 x5 y5 x6 y6 x7 y7 x8 y8 x9 y9 x10 y10 x11 y11 x12 y12 x13 y13
 have B3:=HT_ B2 hb
 have X3:=H_ (X2.out.below hb)
 have Y3:=H_ (Y2.out.below hb)
 clear hb B2 X2 Y2
 have xl:=X3.out.1
 have yl:=Y3.out.1
 have x0:=q_ X3.out.2 0
 have y0:=q_ Y3.out.2 0
 have x1:=q_ X3.out.2 1
 have y1:=q_ Y3.out.2 1
 have x2:=q_ X3.out.2 2
 have y2:=q_ Y3.out.2 2
 have x3:=q_ X3.out.2 3
 have y3:=q_ Y3.out.2 3
 have x4:=q_ X3.out.2 4
 have y4:=q_ Y3.out.2 4
 have x5:=q_ X3.out.2 5
 have y5:=q_ Y3.out.2 5
 have x6:=q_ X3.out.2 6
 have y6:=q_ Y3.out.2 6
 have x7:=q_ X3.out.2 7
 have y7:=q_ Y3.out.2 7
 have x8:=q_ X3.out.2 8
 have y8:=q_ Y3.out.2 8
 have x9:=q_ X3.out.2 9
 have y9:=q_ Y3.out.2 9
 have x10:=q_ X3.out.2 10
 have y10:=q_ Y3.out.2 10
 have x11:=q_ X3.out.2 11
 have y11:=q_ Y3.out.2 11
 have x12:=q_ X3.out.2 12
 have y12:=q_ Y3.out.2 12
 have x13:=q_ X3.out.2 13
 have y13:=q_ Y3.out.2 13
 go_wp2_with fail
 go_ret
 exact ⟨rfl,B3.out⟩
end CatR
namespace EngR
open ChG
open EvtR (Pt)
structure Kq (base:Nat) (w w':World):Prop where
 size:w.heap.size≤w'.heap.size
 block:∀k,base≤k→k<w.heap.size→w'.heap[k]? = w.heap[k]?
theorem Kq.refl (base:Nat) (w:World):Kq base w w:=⟨Nat.le_refl _,fun _ _ _=>rfl⟩
theorem Kq.below {base:Nat} {w w1 w2:World} (h:Kq base w w1) (hb:Below w1.heap.size w1 w2):Kq base w w2 :=
 ⟨Nat.le_trans h.size hb.size,fun k h1 h2=>(hb.block k (by have:=h.size;omega)).trans (h.block k h1 h2)⟩
theorem Kq.chg {base:Nat} {S:Nat→Prop} {w w1 w2:World} (h:Kq base w w1) (hc:Chg S w1 w2) (hS:∀b,S b→b<base):Kq base w w2 :=
 ⟨Nat.le_trans h.size hc.size,fun k h1 h2=>(hc.block k (by have:=h.size;omega) (fun q=>by have:=hS k q;omega)).trans (h.block k h1 h2)⟩
theorem Kq.cell {base:Nat} {w w':World} (h:Kq base w w') {b:Nat} (hb:base≤b) (hl:b<w.heap.size) (o:Nat):w'.cell? ⟨b,o,none⟩=w.cell? ⟨b,o,none⟩:=World.cell?_of_block (a:=⟨b,o,none⟩) (h.block b hb hl)
theorem Kq.pt {base b n:Nat} {w w':World} (h:Kq base w w') (hp:Pt b n w) (hb:base≤b):Pt b n w':=pt_block hp h.size (h.block b hb hp.lt)
theorem Kq.low {base base':Nat} {w w':World} (h:Kq base w w') (hb:base≤base'):Kq base' w w':=⟨h.size,fun k h1 h2=>h.block k (by omega) h2⟩
theorem Kq.trans {base:Nat} {w w1 w2:World} (h:Kq base w w1) (h2:Kq base w1 w2):Kq base w w2:=⟨Nat.le_trans h.size h2.size,fun k h3 h4=>(h2.block k h3 (by have:=h.size;omega)).trans (h.block k h3 h4)⟩
theorem rws_kq {α:Type} {k:Nat} {cells:α→List Value} {z:α} {ao:Option Addr} {xs:List α} {base:Nat} {w w':World} (h:RowG.Rws k cells z ao xs w) (hk:Kq base w w') (hb:xs.length=0∨∀b off,ao=some ⟨b,off,none⟩→base≤b):RowG.Rws k cells z ao xs w':=by
 rcases h with h0|⟨b,off,e,hl,hc⟩
 ·exact .inl h0
 ·rcases hb with h0|hb
  ·exact .inl h0
  ·exact .inr ⟨b,off,e,Nat.lt_of_lt_of_le hl hk.size,fun j hj i hi=>(hk.cell (hb b off e) hl _).trans (hc j hj i hi)⟩
end EngR
namespace CatR
open EvtR (Pt cell_put cell_far)
theorem infoM:(Tryz.prog.info? 150).map (fun i=>(i.zero,i.size,i.bytes))=some (some (.agg #[.string ⟨#[]⟩,.int .i64 0,.bool false,.int .i64 0,.int .i64 0,.slice none 0 0]),6,72):=by kernel_rfl
theorem toMes_any (ao:Option Addr) (len cap:Nat) (ms:List Me) (w:World) (hlen:len≤1048576) (hS:∀i,i<len→(ms.getD i Me.zero).Small) (hI:Mes ao len ms w) :
 Calls Tryz.prog 64 #[.slice ao len cap] w fun e w'=>e=.returned (.slice (some ⟨w.heap.size,0,none⟩) len len)∧(∃bs,NewMes w.heap.size w.heap.size bs len len ms w')∧Below w.heap.size w w':=by
 obtain ⟨i0,hi,hz0,hz1,hz2⟩:=info_parts infoM
 have HI:=H_ hI
 have HS:=H_ hS
 clear hI hS
 go_enter Tryz.func64,Tryz.ntmps64
 go_wp2_with (at_make;refine wpList_make_full _ rfl _ _ 33 rfl w.heap.size 150 i0 (.agg #[.string ⟨#[]⟩,.int .i64 0,.bool false,.int .i64 0,.int .i64 0,.slice none 0 0]) 6 Tryz.underlying33 hi hz0 hz1 .i64 .i64 _ _ len rfl rfl rfl rfl ?b2 ?b3 ?b4 ?_)
 case b2=>rw [hz2];omega
 case b3=>unfold maxLen;omega
 case b4=>exact Nat.le_refl _
 intro wm hown hgrow
 have HP:=H_ (row_full hown)
 have HB:Hid (Below w.heap.size w wm):=H_ ((Below.refl _ _).grown hgrow (Nat.le_refl _) (fun k e=>by cases e))
 clear hown hgrow hi hz0 hz1 hz2
 go_wp2_with fail
 go_loopw [4] (fun z wr=>∃(k:Nat) (bs:Nat→Nat),k≤len∧z=.int .i64 k∧Hid (Below w.heap.size w wr)∧Hid (NewMes w.heap.size w.heap.size bs len k ms wr)) (fun z _=>len-(intOf z).toNat)
 case atStart=>exact ⟨0,fun _=>0,by omega,rfl,HB,H_ ⟨Nat.le_refl _,HP.out,fun i hi=>absurd hi (by omega),fun i hi=>absurd hi (by omega)⟩⟩
 case round =>
  obtain ⟨k,bs,hk,rfl,HB,HM⟩:=hrel
  by_cases hlt:k<len
  ·have hlt2:(k:Int)<(len:Int):=by omega
   obtain ⟨b,off,rfl,hbl,ta,tc,c0,c1,c2,c3,c4,c5,hT⟩:=mes_at (HI.out.below HB.out) k hlt
   have HC:=H_ (toMe_any _ (ms.getD k Me.zero) wr (HS.out k hlt).2 ⟨ta,tc,rfl,hT⟩)
   have HST:=H_ (fun w1 hbl b hb hT hP=>HM.out.step (w1:=w1) hbl hlt (b:=b) hb HM.out.blocks hT hP)
   generalize (ms.getD k Me.zero)=X at *
   obtain ⟨n,g,wh,f,l,ts⟩:=X
   unfold setM at HST
   simp only at HC HST c0 c1 c2 c3 c4 c5
   clear hT
   go_wp2_with fail
   refine HC.out.mono ?_
   rintro e w1 ⟨⟨v',rfl,b1,hb1,rfl,hT1,hP1⟩,hbb⟩
   simp only at hT1 hP1
   have HST2:=H_ (HST.out w1 hbb b1 hb1 hT1 hP1)
   have HB1:=HT_ HB hbb
   have HP1:=H_ (HM.out.pt.below hbb)
   obtain ⟨v0,d0⟩:=HP1.out.has (k*6) (by omega)
   obtain ⟨v1,d1⟩:=HP1.out.has (k*6+1) (by omega)
   obtain ⟨v2,d2⟩:=HP1.out.has (k*6+2) (by omega)
   obtain ⟨v3,d3⟩:=HP1.out.has (k*6+3) (by omega)
   obtain ⟨v4,d4⟩:=HP1.out.has (k*6+4) (by omega)
   obtain ⟨v5,d5⟩:=HP1.out.has (k*6+5) (by omega)
   have z0:=HP1.out.free (k*6) (by omega)
   have z1:=HP1.out.free (k*6+1) (by omega)
   have z2:=HP1.out.free (k*6+2) (by omega)
   have z3:=HP1.out.free (k*6+3) (by omega)
   have z4:=HP1.out.free (k*6+4) (by omega)
   have z5:=HP1.out.free (k*6+5) (by omega)
   clear hbb hT1 hP1 HST HC c0 c1 c2 c3 c4 c5
   generalize ts.length=tl at *
   go_wp2_with fail
   go_roundw
   case rel=>exact ⟨k+1,_,by omega,by go_num,H_ ((((((HB1.out.setCell (Nat.le_refl _) _).setCell (Nat.le_refl _) _).setCell (Nat.le_refl _) _).setCell (Nat.le_refl _) _).setCell (Nat.le_refl _) _).setCell (Nat.le_refl _) _),HST2⟩
   case measure=>simp [intOf];omega
  ·have hlt2:¬(k:Int)<(len:Int):=by omega
   obtain rfl:k=len:=by omega
   go_wp2_with fail
   go_ret
   exact ⟨rfl,⟨bs,HM.out⟩,HB.out⟩
theorem eqMes_any (ao bo:Option Addr) (len cap cap':Nat) (ms:List Me) (w:World) (hlen:len≤1048576) (hS:∀i,i<len→(ms.getD i Me.zero).Small) (hI:Mes ao len ms w) (hJ:Mes bo len ms w) :
 Calls Tryz.prog 82 #[.slice ao len cap,.slice bo len cap'] w fun e w'=>e=.returned (.bool true)∧Below w.heap.size w w':=by
 have HI:=H_ hI
 have HJ:=H_ hJ
 have HS:=H_ hS
 clear hI hJ hS
 go_enter Tryz.func82,Tryz.ntmps82
 go_wp2_with fail
 go_loopw [5] (fun z wr=>∃k:Nat,k≤len∧z=.int .i64 k∧Hid (Below w.heap.size w wr)) (fun z _=>len-(intOf z).toNat)
 case atStart=>exact ⟨0,by omega,rfl,H_ (Below.refl _ _)⟩
 case round =>
  obtain ⟨k,hk,rfl,HW⟩:=hrel
  by_cases hlt:k<len
  ·have hlt2:(k:Int)<(len:Int):=by omega
   obtain ⟨b,off,rfl,_,ta,tc,c0,c1,c2,c3,c4,c5,hT⟩:=mes_at (HI.out.below HW.out) k hlt
   obtain ⟨b',off',rfl,_,ta',tc',e0,e1,e2,e3,e4,e5,hT'⟩:=mes_at (HJ.out.below HW.out) k hlt
   have HC:=H_ (fun W (hW:Below wr.heap.size wr W)=>eqMe_any _ _ (ms.getD k Me.zero) W (HS.out k hlt).2 ⟨ta,tc,rfl,hT.below hW⟩ ⟨ta',tc',rfl,hT'.below hW⟩)
   generalize ms.getD k Me.zero=X at *
   obtain ⟨n,g,wh,f,l,ts⟩:=X
   simp only at HC c0 c1 c2 c3 c4 c5 e0 e1 e2 e3 e4 e5
   clear hT hT'
   generalize ts.length=tl at *
   go_wp2_with fail
   go_region_with (go_at_call 140;refine (HC.out _ (Below.refl _ _).drew).mono ?_;rintro e w1 ⟨rfl,hb⟩)
   all_goals (
    have HB1:=H_ (HW.out.drew.trans (hb.mono HW.out.drew.size))
    clear hb c0 c1 c2 c3 c4 c5 e0 e1 e2 e3 e4 e5
    go_wp2_with fail
    go_roundw
    case rel=>exact ⟨k+1,by omega,by go_num,HB1⟩
    case measure=>simp [intOf];omega)
  ·have hlt2:¬(k:Int)<(len:Int):=by omega
   go_wp2_with fail
   go_ret
   exact ⟨rfl,HW.out⟩
end CatR
end Go.Proofs.YtnceeaccbcfopaaGreatDoor
