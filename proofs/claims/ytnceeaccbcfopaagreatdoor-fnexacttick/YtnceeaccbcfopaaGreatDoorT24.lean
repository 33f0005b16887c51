/-
  What the model calls a right window.
  The law's own marks in a catalog and in a meter's tiers: written, and found again.
  Windows of one's own are marked, however far: nothing beside their own blocks is written.
  From the row's premise on the program's table to the walk's: its variable holds the months' days; and a world that meets the premise.
  From the row's premise on the program's own error to the walk's: its variable holds an error; and a world that meets the premise.
  From the row's premise on the program's table and its own error to the walk's; and a world that meets the premise.
  The conditions stand in what each theorem says.
-/
import Derived.Lib.ConvBytes
import Derived.Laws.BytesArg
import Derived.Test.YtnceeaccbcfopaaGreatDoorTie
import Derived.ChangeSame
import Derived.ChangeVars
import Derived.JoinedOf
import Derived.ProofKit
import Derived.LaidLaws
import Derived.LaidMore
import Derived.LaidHandle
import Derived.MakeChecks
import Derived.Lib.LaidTab
import Derived.Stop.Joined
import Derived.Stop.LaidErr
import Derived.LaidSub
import Derived.Test.YtnceeaccbcfopaaGreatDoorT23
set_option maxRecDepth 100000
set_option maxHeartbeats 16000000
namespace Go.Proofs.YtnceeaccbcfopaaGreatDoor
open Go.ChangeShapes Go.WideShapes Go.ChangeAt Go.RowKit
set_option linter.unusedVariables false
namespace WinR
open RowG LtR
open CatR (Blk Blk.new)
theorem six (b1 b2 b3 b4 b5 b6:Bool):(b1=false)∨(b1=true∧b2=false)∨(b1=true∧b2=true∧b3=false)∨(b1=true∧b2=true∧b3=true∧b4=false)∨(b1=true∧b2=true∧b3=true∧b4=true∧b5=false)∨(b1=true∧b2=true∧b3=true∧b4=true∧b5=true∧b6=false)∨(b1=true∧b2=true∧b3=true∧b4=true∧b5=true∧b6=true):=by
 cases b1<;>cases b2<;>cases b3<;>cases b4<;>cases b5<;>cases b6<;>simp
theorem sisMonth_any (n:Int) (w:World):Calls Tryz.prog 55 #[.int .i64 n] w fun e w'=>e=.returned (.bool (decide (0≤n∧n≤2760)))∧w'=w:=by
 have H:=EvtR.is_any n 0 2760
 generalize decide (0≤n∧n≤2760)=b at *
 go_enter Tryz.func55,Tryz.ntmps55
 go_wp2_with (go_at_call 63;refine (H _).mono ?_;rintro e w' ⟨rfl,rfl⟩)
 go_ret
 exact ⟨rfl,rfl⟩
theorem sright_in (a m:ByteArray) (mo ev su mx:Int) (ta:Option Addr) (tl tc:Nat) (ha:Option Addr) (hl hc:Nat) (b1 b2 b3 b4 b5 b6 b7 b8:Bool) (w:World)
 (h1:∀W,Calls Tryz.prog 104 #[.string a] W fun e w'=>e=.returned (.bool b1)∧w'=W) (h2:∀W,Calls Tryz.prog 104 #[.string m] W fun e w'=>e=.returned (.bool b2)∧w'=W) (h3:∀W,Calls Tryz.prog 55 #[.int .i64 mo] W fun e w'=>e=.returned (.bool b3)∧w'=W) (h4:∀W,Calls Tryz.prog 63 #[.int .i64 ev,.int .i64 1,.int .i64 1000] W fun e w'=>e=.returned (.bool b4)∧w'=W) (h5:∀W,Calls Tryz.prog 63 #[.int .i64 su,.int .i64 0,.int .i64 1000000000000] W fun e w'=>e=.returned (.bool b5)∧w'=W) (h6:∀W,Calls Tryz.prog 63 #[.int .i64 mx,.int .i64 0,.int .i64 su] W fun e w'=>e=.returned (.bool b6)∧w'=W)
 (h7:∀W,Below w.heap.size w W→Calls Tryz.prog 110 #[.slice ta tl tc] W fun e w'=>e=.returned (.bool b7)∧Below W.heap.size W w')
 (h8:b5=true→hl≤12→∀W,Below w.heap.size w W→Calls Tryz.prog 111 #[.slice ha hl hc,.int .i64 mo,.int .i64 su] W fun e w'=>e=.returned (.bool b8)∧Below W.heap.size W w') :
 Calls Tryz.prog 56 #[.agg #[.string a,.string m,.int .i64 mo,.int .i64 ev,.int .i64 su,.int .i64 mx,.slice ta tl tc,.slice ha hl hc]] w fun e w'=>e=.returned (.bool ((b1&&(b2&&b3))&&((b4&&(b5&&b6))&&(b7&&(decide (1≤hl∧hl≤12)&&b8)))))∧Below w.heap.size w w':=by
 have H1:=H_ h1
 have H2:=H_ h2
 have H3:=H_ h3
 have H4:=H_ h4
 have H5:=H_ h5
 have H6:=H_ h6
 have H7:=H_ h7
 have H8:=H_ h8
 clear h1 h2 h3 h4 h5 h6 h7 h8
 have HB0:Hid (Below w.heap.size w (w.alloc (.cells #[.string a,.string m,.int .i64 mo,.int .i64 ev,.int .i64 su,.int .i64 mx,.slice ta tl tc,.slice ha hl hc] 106))):=H_ (al_ _ _)
 have HX0:=H_ (Blk.new w [.string a,.string m,.int .i64 mo,.int .i64 ev,.int .i64 su,.int .i64 mx,.slice ta tl tc,.slice ha hl hc] 106)
 rcases six b1 b2 b3 b4 b5 b6 with rfl|⟨rfl,rfl⟩|⟨rfl,rfl,rfl⟩|⟨rfl,rfl,rfl,rfl⟩|⟨rfl,rfl,rfl,rfl,rfl⟩|⟨rfl,rfl,rfl,rfl,rfl,rfl⟩|⟨rfl,rfl,rfl,rfl,rfl,rfl⟩
 ·go_enter Tryz.func56,Tryz.ntmps56
  go_wp2_with fail
  refine (H1.out _).mono ?_
  rintro e w1 ⟨rfl,rfl⟩
  go_wp2_with fail
  go_ret
  exact ⟨ret_bool (by simp),HB0.out⟩
 ·go_enter Tryz.func56,Tryz.ntmps56
  go_wp2_with fail
  refine (H1.out _).mono ?_
  rintro e w1 ⟨rfl,rfl⟩
  go_wp2_with fail
  refine (H2.out _).mono ?_
  rintro e w1 ⟨rfl,rfl⟩
  go_wp2_with fail
  go_ret
  exact ⟨ret_bool (by simp),HB0.out⟩
 ·go_enter Tryz.func56,Tryz.ntmps56
  go_wp2_with fail
  refine (H1.out _).mono ?_
  rintro e w1 ⟨rfl,rfl⟩
  go_wp2_with fail
  refine (H2.out _).mono ?_
  rintro e w1 ⟨rfl,rfl⟩
  go_wp2_with fail
  refine (H3.out _).mono ?_
  rintro e w1 ⟨rfl,rfl⟩
  go_wp2_with fail
  go_ret
  exact ⟨ret_bool (by simp),HB0.out⟩
 ·go_enter Tryz.func56,Tryz.ntmps56
  go_wp2_with fail
  refine (H1.out _).mono ?_
  rintro e w1 ⟨rfl,rfl⟩
  go_wp2_with fail
  refine (H2.out _).mono ?_
  rintro e w1 ⟨rfl,rfl⟩
  go_wp2_with fail
  refine (H3.out _).mono ?_
  rintro e w1 ⟨rfl,rfl⟩
  go_wp2_with fail
  refine (H4.out _).mono ?_
  rintro e w1 ⟨rfl,rfl⟩
  go_wp2_with fail
  go_ret
  exact ⟨ret_bool (by simp),HB0.out⟩
 ·go_enter Tryz.func56,Tryz.ntmps56
  go_wp2_with fail
  refine (H1.out _).mono ?_
  rintro e w1 ⟨rfl,rfl⟩
  go_wp2_with fail
  refine (H2.out _).mono ?_
  rintro e w1 ⟨rfl,rfl⟩
  go_wp2_with fail
  refine (H3.out _).mono ?_
  rintro e w1 ⟨rfl,rfl⟩
  go_wp2_with fail
  refine (H4.out _).mono ?_
  rintro e w1 ⟨rfl,rfl⟩
  go_wp2_with fail
  refine (H5.out _).mono ?_
  rintro e w1 ⟨rfl,rfl⟩
  go_wp2_with fail
  go_ret
  exact ⟨ret_bool (by simp),HB0.out⟩
 ·go_enter Tryz.func56,Tryz.ntmps56
  go_wp2_with fail
  refine (H1.out _).mono ?_
  rintro e w1 ⟨rfl,rfl⟩
  go_wp2_with fail
  refine (H2.out _).mono ?_
  rintro e w1 ⟨rfl,rfl⟩
  go_wp2_with fail
  refine (H3.out _).mono ?_
  rintro e w1 ⟨rfl,rfl⟩
  go_wp2_with fail
  refine (H4.out _).mono ?_
  rintro e w1 ⟨rfl,rfl⟩
  go_wp2_with fail
  refine (H5.out _).mono ?_
  rintro e w1 ⟨rfl,rfl⟩
  go_wp2_with fail
  refine (H6.out _).mono ?_
  rintro e w1 ⟨rfl,rfl⟩
  go_wp2_with fail
  go_ret
  exact ⟨ret_bool (by simp),HB0.out⟩
 ·cases b7
  ·go_enter Tryz.func56,Tryz.ntmps56
   go_wp2_with fail
   refine (H1.out _).mono ?_
   rintro e w1 ⟨rfl,rfl⟩
   go_wp2_with fail
   refine (H2.out _).mono ?_
   rintro e w1 ⟨rfl,rfl⟩
   go_wp2_with fail
   refine (H3.out _).mono ?_
   rintro e w1 ⟨rfl,rfl⟩
   go_wp2_with fail
   refine (H4.out _).mono ?_
   rintro e w1 ⟨rfl,rfl⟩
   go_wp2_with fail
   refine (H5.out _).mono ?_
   rintro e w1 ⟨rfl,rfl⟩
   go_wp2_with fail
   refine (H6.out _).mono ?_
   rintro e w1 ⟨rfl,rfl⟩
   go_wp2_with fail
   refine (H7.out _ HB0.out).mono ?_
   rintro e w2 ⟨rfl,hb2⟩
   have HB2:=HT_ HB0 hb2
   clear hb2 HX0
   go_wp2_with fail
   go_ret
   exact ⟨ret_bool (by simp),HB2.out⟩
  ·rcases (show (¬1≤hl)∨(1≤hl∧¬hl≤12)∨(1≤hl∧hl≤12) by omega) with q|⟨q,q2⟩|⟨q,q2⟩
   ·have q':¬(1:Int)≤(hl:Int):=by omega
    rw [decide_eq_false (show ¬(1≤hl∧hl≤12) by omega)]
    go_enter Tryz.func56,Tryz.ntmps56
    go_wp2_with fail
    refine (H1.out _).mono ?_
    rintro e w1 ⟨rfl,rfl⟩
    go_wp2_with fail
    refine (H2.out _).mono ?_
    rintro e w1 ⟨rfl,rfl⟩
    go_wp2_with fail
    refine (H3.out _).mono ?_
    rintro e w1 ⟨rfl,rfl⟩
    go_wp2_with fail
    refine (H4.out _).mono ?_
    rintro e w1 ⟨rfl,rfl⟩
    go_wp2_with fail
    refine (H5.out _).mono ?_
    rintro e w1 ⟨rfl,rfl⟩
    go_wp2_with fail
    refine (H6.out _).mono ?_
    rintro e w1 ⟨rfl,rfl⟩
    go_wp2_with fail
    refine (H7.out _ HB0.out).mono ?_
    rintro e w2 ⟨rfl,hb2⟩
    have HB2:=HT_ HB0 hb2
    have HX2:=H_ (HX0.out.below hb2)
    clear hb2 HX0
    obtain ⟨xl,xc⟩:=HX2.out
    have y2:=q_ xc 2
    have y4:=q_ xc 4
    have y7:=q_ xc 7
    clear xc
    go_wp2_with fail
    go_ret
    exact ⟨ret_bool (by simp),HB2.out⟩
   ·have q':(1:Int)≤(hl:Int):=by omega
    have q2':¬(hl:Int)≤12:=by omega
    rw [decide_eq_false (show ¬(1≤hl∧hl≤12) by omega)]
    go_enter Tryz.func56,Tryz.ntmps56
    go_wp2_with fail
    refine (H1.out _).mono ?_
    rintro e w1 ⟨rfl,rfl⟩
    go_wp2_with fail
    refine (H2.out _).mono ?_
    rintro e w1 ⟨rfl,rfl⟩
    go_wp2_with fail
    refine (H3.out _).mono ?_
    rintro e w1 ⟨rfl,rfl⟩
    go_wp2_with fail
    refine (H4.out _).mono ?_
    rintro e w1 ⟨rfl,rfl⟩
    go_wp2_with fail
    refine (H5.out _).mono ?_
    rintro e w1 ⟨rfl,rfl⟩
    go_wp2_with fail
    refine (H6.out _).mono ?_
    rintro e w1 ⟨rfl,rfl⟩
    go_wp2_with fail
    refine (H7.out _ HB0.out).mono ?_
    rintro e w2 ⟨rfl,hb2⟩
    have HB2:=HT_ HB0 hb2
    have HX2:=H_ (HX0.out.below hb2)
    clear hb2 HX0
    obtain ⟨xl,xc⟩:=HX2.out
    have y2:=q_ xc 2
    have y4:=q_ xc 4
    have y7:=q_ xc 7
    clear xc
    go_wp2_with fail
    go_ret
    exact ⟨ret_bool (by simp),HB2.out⟩
   ·have q':(1:Int)≤(hl:Int):=by omega
    have q2':(hl:Int)≤12:=by omega
    rw [decide_eq_true (show 1≤hl∧hl≤12 by omega)]
    have H9:=H_ (H8.out rfl q2)
    go_enter Tryz.func56,Tryz.ntmps56
    go_wp2_with fail
    refine (H1.out _).mono ?_
    rintro e w1 ⟨rfl,rfl⟩
    go_wp2_with fail
    refine (H2.out _).mono ?_
    rintro e w1 ⟨rfl,rfl⟩
    go_wp2_with fail
    refine (H3.out _).mono ?_
    rintro e w1 ⟨rfl,rfl⟩
    go_wp2_with fail
    refine (H4.out _).mono ?_
    rintro e w1 ⟨rfl,rfl⟩
    go_wp2_with fail
    refine (H5.out _).mono ?_
    rintro e w1 ⟨rfl,rfl⟩
    go_wp2_with fail
    refine (H6.out _).mono ?_
    rintro e w1 ⟨rfl,rfl⟩
    go_wp2_with fail
    refine (H7.out _ HB0.out).mono ?_
    rintro e w2 ⟨rfl,hb2⟩
    have HB2:=HT_ HB0 hb2
    have HX2:=H_ (HX0.out.below hb2)
    clear hb2 HX0
    obtain ⟨xl,xc⟩:=HX2.out
    have y2:=q_ xc 2
    have y4:=q_ xc 4
    have y7:=q_ xc 7
    clear xc
    go_wp2_with fail
    refine (H9.out _ HB2.out).mono ?_
    rintro e w3 ⟨rfl,hb3⟩
    have HB3:=HT_ HB2 hb3
    clear hb3
    go_wp2_with fail
    go_ret
    exact ⟨ret_bool (by simp),HB3.out⟩
theorem spec_window_right (x:Wd) (ta:Option Addr) (tc:Nat) (ha:Option Addr) (hc:Nat) (w:World) (h1:x.a.size≤1048576) (h2:x.m.size≤1048576) (h3:x.ts.length≤1048576) (h4:∀t∈x.ts,t.size≤1048576) (hT:Tgs ta x.ts w) (hH:Hrs ha x.hs w) :
 Calls Tryz.prog 56 #[.agg (wcells x ta tc ha hc)] w fun e w'=>e=.returned (.bool (wB x))∧Below w.heap.size w w' :=
 sright_in x.a x.m x.mo x.ev x.su x.mx ta x.ts.length tc ha x.hs.length hc _ _ _ _ _ _ _ _ w (fun W=>NameR.spec_any x.a W h1) (fun W=>NameR.spec_any x.m W h2) (fun W=>sisMonth_any x.mo W) (fun W=>EvtR.is_any x.ev 1 1000 W) (fun W=>EvtR.is_any x.su 0 1000000000000 W) (fun W=>EvtR.is_any x.mx 0 x.su W) (fun W hW=>spec_tags ta tc x.ts W h3 h4 (hT.below hW)) (fun hs hl W hW=>spec_hours ha hc x.hs x.mo x.su W hl (of_decide_eq_true hs) (hH.below hW))
end WinR
namespace CatR
open EvtR (Pt)
structure Outs (base top:Nat) (w w':World):Prop where
 os:w'.os=w.os
 tape:w'.tape=w.tape
 output:w'.output=w.output
 size:w.heap.size≤w'.heap.size
 block:∀k,k<w.heap.size→(k<base∨top≤k)→w'.heap[k]? = w.heap[k]?
theorem Outs.refl (base top:Nat) (w:World):Outs base top w w:=⟨rfl,rfl,rfl,Nat.le_refl _,fun _ _ _=>rfl⟩
theorem Outs.trans {base top:Nat} {w w1 w2:World} (h:Outs base top w w1) (h2:Outs base top w1 w2):Outs base top w w2 :=
 ⟨h2.os.trans h.os,h2.tape.trans h.tape,h2.output.trans h.output,Nat.le_trans h.size h2.size,fun k hk hb=>(h2.block k (by have:=h.size;omega) hb).trans (h.block k hk hb)⟩
theorem Outs.below {base top:Nat} {w w1 w2:World} (h:Outs base top w w1) (hb:Below w1.heap.size w1 w2):Outs base top w w2 :=
 h.trans ⟨hb.os,hb.tape,hb.output,hb.size,fun k hk _=>hb.block k hk⟩
theorem Outs.grown {base top:Nat} {w w1 w2:World} {g:Nat} (h:Outs base top w w1) (hg:w1.grownBy w2 (some g)) (h1:base≤g) (h2:g<top):Outs base top w w2 :=
 h.trans ⟨hg.os,hg.tape,hg.output,hg.size,fun k hk hb=>hg.block k hk (fun e=>by simp at e;omega)⟩
theorem Outs.put {base top:Nat} {w w1:World} (h:Outs base top w w1) (g o:Nat) (v:Value) (h1:base≤g) (h2:g<top):Outs base top w (w1.setCell ⟨g,o,none⟩ v):=h.grown (RowG.grown_set w1 g o v) h1 h2
theorem pt_any {g m:Nat} {w:World} (h:Pt g m w) (b o:Nat) (v:Value):Pt g m (w.setCell ⟨b,o,none⟩ v):=by
 by_cases e:b=g
 ·subst e;exact h.set o v
 ·exact h.far e o v
theorem pt_gr {g m b:Nat} {w w':World} (h:Pt g m w) (hg:w.grownBy w' (some b)) (hp:b=g→Pt g m w'):Pt g m w':=by
 by_cases e:b=g
 ·exact hp e
 ·have e2:=hg.block g h.lt (fun q=>e (by simpa using q.symm))
  exact ⟨by have:=hg.size;have:=h.lt;omega,fun o ho=>by obtain ⟨v,hv⟩:=h.has o ho;exact ⟨v,(World.cell?_of_block (a:=⟨g,o,none⟩) e2).trans hv⟩,fun o ho=>(World.frozen?_of_block (a:=⟨g,o,none⟩) e2).trans (h.free o ho)⟩
def mTi (K o:Nat):Option Value:=some (.int .i64 ((K+o:Nat):Int))
theorem markTis (g n cap K:Nat) (w:World) (hn:n≤1048576) (hK:K≤1000000000000000) (h0:Pt g (n*2) w) :
 Calls Tryz.prog 144 #[.slice (some ⟨g,0,none⟩) n cap,.int .i64 K] w fun e w'=>e=.returned (.int .i64 (K+2*n:Nat))∧Pt g (n*2) w'∧RowG.Wr (mTi K) (n*2) g w'∧w.grownBy w' (some g):=by
 have HP:=H_ h0
 clear h0
 go_enter Tryz.func144,Tryz.ntmps144
 go_wp2_with fail
 go_loopw [5,1] (fun x z wr=>∃i:Nat,x=.int .i64 (i:Int)∧z=.int .i64 ((K:Int)+2*(i:Int))∧i≤n∧Hid (Pt g (n*2) wr)∧Hid (RowG.Wr (mTi K) (i*2) g wr)∧Hid (w.grownBy wr (some g))) (fun x _ _=>n-(intOf x).toNat)
 case atStart=>exact ⟨0,rfl,by go_num,by omega,HP,H_ (fun o ho=>absurd ho (by omega)),H_ ⟨rfl,rfl,rfl,Nat.le_refl _,fun _ _ _=>rfl⟩⟩
 case round =>
  obtain ⟨i,rfl,rfl,hi,HP,HM,HG⟩:=hrel
  by_cases hin:i=n
  ·subst hin
   go_wp2_with fail
   go_ret
   exact ⟨by go_num,HP.out,HM.out,HG.out⟩
  ·have h1:(i:Int)<(n:Int):=by omega
   obtain ⟨v0,c0⟩:=HP.out.has (i*2) (by omega)
   have f0:=HP.out.free (i*2) (by omega)
   obtain ⟨v1,c1⟩:=HP.out.has (i*2+1) (by omega)
   have f1:=HP.out.free (i*2+1) (by omega)
   have HM1:=H_ (HM.out.more HP.out (by omega) (.int .i64 ((K:Int)+2*(i:Int))) (by unfold mTi;congr 2;omega))
   have HP1:=H_ (HP.out.set (i*2) (.int .i64 ((K:Int)+2*(i:Int))))
   have HM2:=H_ (HM1.out.more HP1.out (by omega) (.int .i64 ((K:Int)+2*(i:Int)+1)) (by unfold mTi;congr 2;omega))
   have HP2:=H_ (HP1.out.set (i*2+1) (.int .i64 ((K:Int)+2*(i:Int)+1)))
   have HG2:=H_ (gtr (gtr HG.out (RowG.grown_set wr g (i*2) (.int .i64 ((K:Int)+2*(i:Int))))) (RowG.grown_set _ g (i*2+1) (.int .i64 ((K:Int)+2*(i:Int)+1))))
   clear HP HM HG HM1 HP1
   go_wp2_with fail
   go_roundw
   case rel=>exact ⟨i+1,by go_num,by go_num,by omega,HP2,H_ (by rw [show (i+1)*2=i*2+1+1 by omega];exact HM2.out),HG2⟩
   case measure=>simp [intOf];omega
theorem conv_x (w:World) (z:Int):(convert 205 9 (.slice (some ⟨w.heap.size,0,none⟩) 1 1)).run Tryz.prog (w.alloc (Obj.cells #[.int .u8 z] 5))=.ok (.string (strOfNums [z])) (w.alloc (Obj.cells #[.int .u8 z] 5)):=by
 refine run_convert_bytes_arg _ 205 5 Tryz.underlying205 Tryz.underlying5 w.heap.size 0 1 1 _ rfl ?_ 9 Tryz.underlying9
 intro i hi
 match i,hi with
 | 0,_=>simp [go_sem]
theorem mark_some (K:Nat) (h0:1≤K) (h:K<1000000000000000000) (w:World):Calls Tryz.prog 89 #[.int .i64 K] w fun e w'=>(∃T,e=.returned (.string T))∧Below w.heap.size w w':=by
 have h1:¬(K:Int)≤0:=by omega
 go_enter Tryz.func89,Tryz.ntmps89
 go_wp2_with fail
 go_loopw [0,3] (fun x z wr=>∃(f k:Nat) (out:ByteArray),x=.int .i64 (k:Int)∧z=.string out∧k<10 ^ f∧f≤18∧out.size+f=18∧Hid (Below w.heap.size w wr)) (fun x _ _=>(intOf x).toNat)
 case atStart=>exact ⟨18,K,⟨#[]⟩,rfl,rfl,by omega,by omega,rfl,H_ (Below.refl _ _)⟩
 case round =>
  obtain ⟨f,k,out,rfl,rfl,hk,hf,hz,HB⟩:=hrel
  by_cases hk0:k=0
  ·subst hk0
   have q1:¬9223372036854775807<1+out.size:=by omega
   go_wp2_with fail
   go_ret
   exact ⟨⟨_,rfl⟩,HB.out⟩
  ·obtain ⟨g,rfl⟩:∃g,f=g+1:=⟨f-1,by rcases f with _|f;simp at hk;omega;omega⟩
   have hk2:k / 10<10 ^ g:=by rw [Nat.pow_succ] at hk;omega
   have hkb:k<1000000000000000000:=by
    have:10 ^ (g+1)≤10 ^ 18:=Nat.pow_le_pow_right (by omega) hf
    omega
   have k1:(0:Int)<(k:Int):=by omega
   have e1:(k:Int) % 10=((k % 10:Nat):Int):=by omega
   have e2:(k:Int) / 10=((k / 10:Nat):Int):=by omega
   have e3:(k:Int).tmod 10=((k % 10:Nat):Int):=by rw [Int.tmod_eq_emod_of_nonneg (by omega)];omega
   have e4:(k:Int).tdiv 10=((k / 10:Nat):Int):=by rw [Int.tdiv_eq_ediv_of_nonneg (by omega)];omega
   have d10:k % 10<10:=by omega
   have dk:k / 10<k:=by omega
   have hC:(strOfNums [48+((k % 10:Nat):Int)]).size=1:=strOfNums_size _
   have hcv:=conv_x wr (48+((k % 10:Nat):Int))
   generalize k % 10=d at *
   generalize k / 10=q at *
   generalize strOfNums [48+(d:Int)]=T at *
   have q1:¬9223372036854775807<T.size+out.size:=by omega
   have HDk:=H_ dk
   clear dk hk
   go_wp2_with fail
   go_roundw
   case rel=>exact ⟨g,q,T++out,rfl,rfl,hk2,by omega,by rw [ByteArray.size_append];omega,H_ (HB.out.alloc HB.out.size _)⟩
   case measure=>simp [intOf];have:=HDk.out;omega
structure MkMes (base top g:Nat) (bs:Nat→Nat) (ls:Nat→Nat) (n:Nat) (w:World):Prop where
 lo:base≤g
 hi:g<top
 pt:Pt g (n*6) w
 tp:∀i,i<n→base≤bs i∧bs i<top∧bs i≠g∧Pt (bs i) (ls i*2) w∧ls i≤1048576
 sl:∀i,i<n→w.cell? ⟨g,i*6+5,none⟩=some (.slice (some ⟨bs i,0,none⟩) (ls i) (ls i))
theorem MkMes.below {base top g:Nat} {bs ls:Nat→Nat} {n:Nat} {w w':World} (h:MkMes base top g bs ls n w) (hb:Below w.heap.size w w'):MkMes base top g bs ls n w' :=
 ⟨h.lo,h.hi,h.pt.below hb,fun i hi=>by obtain ⟨a,b,c,d,e⟩:=h.tp i hi;exact ⟨a,b,c,d.below hb,e⟩,fun i hi=>(hb.cell (p:=⟨g,i*6+5,none⟩) h.pt.lt).trans (h.sl i hi)⟩
theorem MkMes.put {base top g:Nat} {bs ls:Nat→Nat} {n:Nat} {w:World} (h:MkMes base top g bs ls n w) (o:Nat) (v:Value) (ho:∀i,i<n→o≠i*6+5):MkMes base top g bs ls n (w.setCell ⟨g,o,none⟩ v) :=
 ⟨h.lo,h.hi,h.pt.set o v,fun i hi=>by obtain ⟨a,b,c,d,e⟩:=h.tp i hi;exact ⟨a,b,c,pt_any d g o v,e⟩,fun i hi=>(EvtR.cell_far o (i*6+5) (ho i hi) v).trans (h.sl i hi)⟩
theorem MkMes.tier {base top g:Nat} {bs ls:Nat→Nat} {n j:Nat} {w w':World} (h:MkMes base top g bs ls n w) (hj:j<n) (hg:w.grownBy w' (some (bs j))) (hp:Pt (bs j) (ls j*2) w') (hsame:∀i,i<n→bs i=bs j→ls i=ls j):MkMes base top g bs ls n w':=by
 obtain ⟨_,_,hjg,_,_⟩:=h.tp j hj
 have e:=hg.block g h.pt.lt (fun q=>hjg (by simpa using q.symm))
 exact ⟨h.lo,h.hi,pt_gr h.pt hg (fun q=>absurd q hjg),fun i hi=>by
  obtain ⟨a,b,c,d,e⟩:=h.tp i hi
  exact ⟨a,b,c,pt_gr d hg (fun q=>by rw [←q,hsame i hi q.symm];exact hp),e⟩,fun i hi=>(World.cell?_of_block (a:=⟨g,i*6+5,none⟩) e).trans (h.sl i hi)⟩
theorem markMes (base top g:Nat) (bs ls:Nat→Nat) (n cap:Nat) (w:World) (hn:n≤1048576) (hM:MkMes base top g bs ls n w) (hs:∀i j,i<n→j<n→bs i=bs j→ls i=ls j) :
 Calls Tryz.prog 87 #[.slice (some ⟨g,0,none⟩) n cap,.int .i64 1] w fun e w'=>∃K:Nat,e=.returned (.int .i64 K)∧1≤K∧K≤10000000000000∧MkMes base top g bs ls n w'∧Outs base top w w':=by
 have HM:=H_ hM
 have HS:=H_ hs
 have HT:Hid (∀(z:Int) (K:Nat),z=K→1≤K→K≤10000000000000→∀w,Calls Tryz.prog 89 #[.int .i64 z] w fun e w'=>(∃T,e=.returned (.string T))∧Below w.heap.size w w'):=H_ (fun z K e h0 h w=>by subst e;exact mark_some K h0 (by omega) w)
 have HTT:Hid (∀(g n cap:Nat) (z:Int) (K:Nat),z=K→n≤1048576→K≤10000000000000→∀w,Pt g (n*2) w→Calls Tryz.prog 144 #[.slice (some ⟨g,0,none⟩) n cap,.int .i64 z] w fun e w'=>e=.returned (.int .i64 (K+2*n:Nat))∧Pt g (n*2) w'∧RowG.Wr (mTi K) (n*2) g w'∧w.grownBy w' (some g)):=H_ (fun g n cap z K e hn hK w h=>by subst e;exact markTis g n cap K w hn (by omega) h)
 clear hM hs
 go_enter Tryz.func87,Tryz.ntmps87
 go_wp2_with fail
 go_loopw [5,1] (fun x z wr=>∃i K:Nat,x=.int .i64 (i:Int)∧z=.int .i64 (K:Int)∧i≤n∧1≤K∧K≤1+i*2097157∧Hid (MkMes base top g bs ls n wr)∧Hid (Outs base top w wr)) (fun x _ _=>n-(intOf x).toNat)
 case atStart=>exact ⟨0,1,rfl,rfl,by omega,by omega,by omega,HM,H_ (Outs.refl _ _ _)⟩
 case round =>
  obtain ⟨i,K,rfl,rfl,hi,hK1,hK2,HM,HO⟩:=hrel
  have hKb:K≤2200000000000:=by have:i*2097157≤1048576*2097157:=Nat.mul_le_mul_right _ (by omega);omega
  by_cases hin:i=n
  ·subst hin
   go_wp2_with fail
   go_ret
   exact ⟨K,rfl,hK1,by omega,HM.out,HO.out⟩
  ·have h1:(i:Int)<(n:Int):=by omega
   go_wp2_with fail
   refine (HT.out _ K rfl hK1 (by omega) _).mono ?_
   rintro e w1 ⟨⟨T,rfl⟩,hb⟩
   have HM1:=H_ (HM.out.below hb)
   have HO1:=H_ (HO.out.below hb)
   clear hb HM HO
   obtain ⟨v0,c0⟩:=HM1.out.pt.has (i*6) (by omega)
   have f0:=HM1.out.pt.free (i*6) (by omega)
   have hh0:∀j,j<n→i*6≠j*6+5:=fun j _=>by omega
   obtain ⟨v1,c1⟩:=HM1.out.pt.has (i*6+1) (by omega)
   have f1:=HM1.out.pt.free (i*6+1) (by omega)
   have hh1:∀j,j<n→i*6+1≠j*6+5:=fun j _=>by omega
   obtain ⟨v2,c2⟩:=HM1.out.pt.has (i*6+2) (by omega)
   have f2:=HM1.out.pt.free (i*6+2) (by omega)
   have hh2:∀j,j<n→i*6+2≠j*6+5:=fun j _=>by omega
   obtain ⟨v3,c3⟩:=HM1.out.pt.has (i*6+3) (by omega)
   have f3:=HM1.out.pt.free (i*6+3) (by omega)
   have hh3:∀j,j<n→i*6+3≠j*6+5:=fun j _=>by omega
   obtain ⟨v4,c4⟩:=HM1.out.pt.has (i*6+4) (by omega)
   have f4:=HM1.out.pt.free (i*6+4) (by omega)
   have hh4:∀j,j<n→i*6+4≠j*6+5:=fun j _=>by omega
   have c5:=HM1.out.sl i (by omega)
   obtain ⟨t1,t2,t3,t4,t5⟩:=HM1.out.tp i (by omega)
   have HTP:=H_ t4
   have HSS:=H_ (fun j hj=>HS.out j i hj (by omega))
   have hgl:=HM1.out.pt.lt
   have hlo:=HM1.out.lo
   have hhi:=HM1.out.hi
   have hli:i<n:=by omega
   have HHH:=H_ (show (∀j,j<n→i*6≠j*6+5)∧(∀j,j<n→i*6+1≠j*6+5)∧(∀j,j<n→i*6+2≠j*6+5)∧(∀j,j<n→i*6+3≠j*6+5)∧(∀j,j<n→i*6+4≠j*6+5) from ⟨hh0,hh1,hh2,hh3,hh4⟩)
   clear hh0 hh1 hh2 hh3 hh4 t4
   go_wp2_with fail
   refine (HTT.out _ _ _ _ (K+5) (by push_cast;omega) t5 (by omega) _ (pt_any (pt_any (pt_any (pt_any (pt_any HTP.out _ _ _) _ _ _) _ _ _) _ _ _) _ _ _)).mono ?_
   rintro e w2 ⟨rfl,hp2,_,hg2⟩
   have HM2:=H_ (MkMes.tier (((((HM1.out.put (i*6) _ HHH.out.1).put (i*6+1) _ HHH.out.2.1).put (i*6+2) _ HHH.out.2.2.1).put (i*6+3) _ HHH.out.2.2.2.1).put (i*6+4) _ HHH.out.2.2.2.2) hli hg2 hp2 HSS.out)
   have HO2:=H_ (Outs.grown (((((HO1.out.put g (i*6) _ hlo hhi).put g (i*6+1) _ hlo hhi).put g (i*6+2) _ hlo hhi).put g (i*6+3) _ hlo hhi).put g (i*6+4) _ hlo hhi) hg2 t1 t2)
   clear hp2 hg2 c0 c1 c2 c3 c4 c5 f0 f1 f2 f3 f4 HM1 HO1
   have hb2:K+5+2*ls i≤1+(i+1)*2097157:=by rw [Nat.add_mul];omega
   go_wp2_with fail
   go_roundw
   case rel=>exact ⟨i+1,K+5+2*ls i,by go_num,by go_num,by omega,by omega,hb2,HM2,HO2⟩
   case measure=>simp [intOf];omega
theorem markCrs (base top g n cap K0:Nat) (w:World) (hn:n≤1048576) (hK0:1≤K0) (hK:K0≤10000000000000) (hlo:base≤g) (hhi:g<top) (h0:Pt g (n*2) w) :
 Calls Tryz.prog 88 #[.slice (some ⟨g,0,none⟩) n cap,.int .i64 K0] w fun e w'=>∃K:Nat,e=.returned (.int .i64 K)∧1≤K∧K≤K0+n*2∧Outs base top w w':=by
 have HP:=H_ h0
 have HT:Hid (∀(z:Int) (K:Nat),z=K→1≤K→K≤20000000000000→∀w,Calls Tryz.prog 89 #[.int .i64 z] w fun e w'=>(∃T,e=.returned (.string T))∧Below w.heap.size w w'):=H_ (fun z K e h0 h w=>by subst e;exact mark_some K h0 (by omega) w)
 clear h0
 go_enter Tryz.func88,Tryz.ntmps88
 go_wp2_with fail
 go_loopw [5,1] (fun x z wr=>∃i K:Nat,x=.int .i64 (i:Int)∧z=.int .i64 (K:Int)∧i≤n∧1≤K∧K≤K0+i*2∧Hid (Pt g (n*2) wr)∧Hid (Outs base top w wr)) (fun x _ _=>n-(intOf x).toNat)
 case atStart=>exact ⟨0,K0,rfl,rfl,by omega,by omega,by omega,HP,H_ (Outs.refl _ _ _)⟩
 case round =>
  obtain ⟨i,K,rfl,rfl,hi,hK1,hK2,HP,HO⟩:=hrel
  by_cases hin:i=n
  ·subst hin
   go_wp2_with fail
   go_ret
   exact ⟨K,rfl,hK1,hK2,HO.out⟩
  ·have h1:(i:Int)<(n:Int):=by omega
   go_wp2_with fail
   refine (HT.out _ K rfl hK1 (by omega) _).mono ?_
   rintro e w1 ⟨⟨T,rfl⟩,hb⟩
   have HP1:=H_ (HP.out.below hb)
   have HO1:=H_ (HO.out.below hb)
   clear hb HP HO
   obtain ⟨v0,c0⟩:=HP1.out.has (i*2) (by omega)
   have f0:=HP1.out.free (i*2) (by omega)
   obtain ⟨v1,c1⟩:=HP1.out.has (i*2+1) (by omega)
   have f1:=HP1.out.free (i*2+1) (by omega)
   have hgl:=HP1.out.lt
   have HP2:=H_ ((HP1.out.set (i*2) (.string T)).set (i*2+1) (.int .i64 ((K:Int)+1)))
   have HO2:=H_ ((HO1.out.put g (i*2) (.string T) hlo hhi).put g (i*2+1) (.int .i64 ((K:Int)+1)) hlo hhi)
   clear HP1 HO1
   go_wp2_with fail
   go_roundw
   case rel=>exact ⟨i+1,K+2,by go_num,by go_num,by omega,by omega,by omega,HP2,HO2⟩
   case measure=>simp [intOf];omega
theorem new_mk {base top:Nat} {g:Nat} {bs:Nat→Nat} {n:Nat} {ms:List Me} {w:World} (h:NewMes base g bs n n ms w) (hS:∀i,i<n→(ms.getD i Me.zero).Small) (ht:∀i,i<n→bs i<top) (hg:g<top):MkMes base top g bs (fun i=>(ms.getD i Me.zero).ts.length) n w:=by
 refine ⟨h.lo,hg,h.pt,fun i hi=>?_,fun i hi=>?_⟩
 ·have h1:=(h.inc i hi).1
  have h2:=h.lo
  exact ⟨by omega,ht i hi,by omega,(h.cel i hi).2.2,(hS i hi).2⟩
 ·exact (h.cel i hi).1.2.2.2.2.2
theorem Outs.wide {base base' top top':Nat} {w w':World} (h:Outs base top w w') (h1:base'≤base) (h2:top≤top'):Outs base' top' w w' :=
 ⟨h.os,h.tape,h.output,h.size,fun k hk hb=>h.block k hk (by omega)⟩
theorem Outs.pt {base top g m:Nat} {w w':World} (h:Outs base top w w') (hp:Pt g m w) (hg:g<base∨top≤g):Pt g m w':=by
 have e2:=h.block g hp.lt hg
 exact ⟨by have:=h.size;have:=hp.lt;omega,fun o ho=>by obtain ⟨v,hv⟩:=hp.has o ho;exact ⟨v,(World.cell?_of_block (a:=⟨g,o,none⟩) e2).trans hv⟩,fun o ho=>(World.frozen?_of_block (a:=⟨g,o,none⟩) e2).trans (hp.free o ho)⟩
theorem Outs.blk {base top b:Nat} {cs:List Value} {w w':World} (h:Outs base top w w') (hp:Blk b cs w) (hg:b<base∨top≤b):Blk b cs w' :=
 ⟨by have:=h.size;have:=hp.1;omega,fun i hi=>(World.cell?_of_block (a:=⟨b,i,none⟩) (h.block b hp.1 hg)).trans (hp.2 i hi)⟩
theorem markCa (base:Nat) (v:Value) (c:Ca) (w:World) (top:Nat) (hS:c.Small) (h:NewCa base v c w) (ht:∀(hh:Nat) (x:Value),v=.agg #[x,.slice (some ⟨hh,0,none⟩) c.cs.length c.cs.length]→hh<top) :
 Calls Tryz.prog 38 #[v,.int .i64 1] w fun e w'=>∃K:Nat,e=.returned (.int .i64 K)∧1≤K∧K≤20000000000000∧Outs base top w w':=by
 obtain ⟨g,bs,hh,rfl,hN,hgh,hbh,hC,hP⟩:=h
 have hht:hh<top:=ht hh _ rfl
 have hhw:hh<w.heap.size:=hP.lt
 clear ht
 have hap:∀i j,i<c.ms.length→j<c.ms.length→bs i=bs j→i=j:=fun i j hi hj e=>by
  rcases (show i<j∨i=j∨j<i by omega) with q|q|q
  ·have:=(hN.inc j hj).2 i q;omega
  ·exact q
  ·have:=(hN.inc i hi).2 j q;omega
 have HMM:=H_ (fun W (hW:Below w.heap.size w W)=>markMes base hh g bs _ c.ms.length c.ms.length W hS.ml (new_mk (hN.below hW) hS.ms hbh hgh) (fun i j hi hj e=>by rw [hap i j hi hj e]))
 have HCC:=H_ (fun W K (h1:1≤K) (h2:K≤10000000000000) (hp:Pt hh (c.cs.length*2) W)=>markCrs hh top hh c.cs.length c.cs.length K W hS.cl h1 h2 (Nat.le_refl _) hht hp)
 have HP:=H_ hP
 have hlo:=hN.lo
 have HX0:Hid (Blk w.heap.size [.slice (some ⟨g,0,none⟩) c.ms.length c.ms.length,.slice (some ⟨hh,0,none⟩) c.cs.length c.cs.length] (w.alloc (.cells #[.slice (some ⟨g,0,none⟩) c.ms.length c.ms.length,.slice (some ⟨hh,0,none⟩) c.cs.length c.cs.length] 36))):=H_ (Blk.new w _ _)
 have hal:∀o,Below w.heap.size w (w.alloc o):=fun o=>(Below.refl _ _).alloc (Nat.le_refl _) _
 have HAL:=H_ hal
 have HCL:Hid (c.cs.length≤1048576):=H_ hS.cl
 clear hN hbh hC hP hap hal hS
 generalize c.ms.length=ml at *
 generalize c.cs.length=cl at *
 go_enter Tryz.func38,Tryz.ntmps38
 go_wp2_with fail
 refine (HMM.out _ (HAL.out _)).mono ?_
 rintro e w1 ⟨K,rfl,hK1,hK2,_,ho1⟩
 have HX1:=H_ (ho1.blk HX0.out (by omega))
 have HP1:=H_ (ho1.pt (HP.out.below (HAL.out _)) (by omega))
 have HO1:Hid (Outs base top w w1):=H_ (((Outs.refl base top w).below (HAL.out _)).trans (ho1.wide (Nat.le_refl _) (by omega)))
 clear ho1
 have x1:=q_ HX1.out.2 1
 have xl:=HX1.out.1
 go_wp2_with fail
 refine (HCC.out _ K hK1 hK2 HP1.out).mono ?_
 rintro e w2 ⟨K2,rfl,hk3,hk4,ho2⟩
 have HO2:=H_ (HO1.out.trans (ho2.wide (by omega) (Nat.le_refl _)))
 clear ho2
 go_wp2_with fail
 go_ret
 exact ⟨K2,rfl,hk3,by have:=HCL.out;omega,HO2.out⟩
end CatR
namespace EngR
open CatR ChG
open RowG (grown_set)
open EvtR (Pt cell_far)
def KP (w w':World):Prop:=∀p n,Pt p n w→Pt p n w'
theorem KP.refl (w:World):KP w w:=fun _ _ h=>h
theorem KP.below {w w1 w2:World} (h:KP w w1) (hb:Below w1.heap.size w1 w2):KP w w2:=fun p n q=>(h p n q).below hb
theorem KP.put {w w1:World} (h:KP w w1) (g o:Nat) (v:Value):KP w (w1.setCell ⟨g,o,none⟩ v):=fun p n q=>WinR.ptA (h p n q)
theorem KP.trans {w w1 w2:World} (h:KP w w1) (h2:KP w1 w2):KP w w2:=fun p n q=>h2 p n (h p n q)
theorem zStr (g:Nat) (ao:Option Addr) (n cap K0:Nat) (w:World) (hn:n≤1048576) (h1:1≤K0) (hK:K0≤800000000000000000) (hao:n=0∨(ao=some ⟨g,0,none⟩∧Pt g (n*1) w)) :
 Calls Tryz.prog 90 #[.slice ao n cap,.int .i64 K0] w fun e w'=>e=.returned (.int .i64 (K0+n:Nat))∧Chg (fun b=>b=g∧0<n) w w'∧KP w w':=by
 have HAO:=H_ hao
 have HT:Hid (∀(z:Int) (K:Nat),z=K→1≤K→K≤900000000000000000→∀w,Calls Tryz.prog 89 #[.int .i64 z] w fun e w'=>(∃T,e=.returned (.string T))∧Below w.heap.size w w'):=H_ (fun z K e h0 h w=>by subst e;exact mark_some K h0 (by omega) w)
 clear hao
 go_enter Tryz.func90,Tryz.ntmps90
 go_wp2_with fail
 go_loopw [5,1] (fun x z wr=>∃i:Nat,x=.int .i64 (i:Int)∧z=.int .i64 ((K0:Int)+(i:Int))∧i≤n∧Hid (Chg (fun b=>b=g∧0<n) w wr)∧Hid (KP w wr)) (fun x _ _=>n-(intOf x).toNat)
 case atStart=>exact ⟨0,rfl,by simp,by omega,H_ (Chg.refl _ _),H_ (KP.refl _)⟩
 case round =>
  obtain ⟨i,rfl,rfl,hi,HG,HA⟩:=hrel
  by_cases hin:i=n
  ·subst hin
   go_wp2_with fail
   go_ret
   exact ⟨by go_num,HG.out,HA.out⟩
  ·have h1:(i:Int)<(n:Int):=by omega
   have h0:0<n:=by omega
   obtain rfl:ao=some ⟨g,0,none⟩:=by
    rcases HAO.out with q|q
    ·omega
    ·exact q.1
   have HP:Hid (Pt g (n*1) wr):=H_ (HA.out _ _ (by
    rcases HAO.out with q|q
    ·omega
    ·exact q.2))
   go_wp2_with fail
   refine (HT.out _ (K0+i) (by push_cast;omega) (by omega) (by omega) _).mono ?_
   rintro e w1 ⟨⟨T,rfl⟩,hb⟩
   replace HP:=H_ (HP.out.below hb)
   replace HG:=H_ (HG.out.below hb)
   replace HA:=H_ (HA.out.below hb)
   obtain ⟨v0,c0⟩:=HP.out.has (i) (by omega)
   have f0:=HP.out.free (i) (by omega)
   have HS:=H_ (HG.out.grown (grown_set _ g (i) (.string T)) ⟨rfl,h0⟩)
   have HK:=H_ (HA.out.put g (i) (.string T))
   clear HG HA HP hb
   go_wp2_with fail
   go_roundw
   case rel=>exact ⟨i+1,by go_num,by (congr 1)<;>omega,by omega,HS,HK⟩
   case measure=>simp [intOf];omega
theorem zHrs (g:Nat) (ao:Option Addr) (n cap K0:Nat) (w:World) (hn:n≤1048576) (h1:1≤K0) (hK:K0≤800000000000000000) (hao:n=0∨(ao=some ⟨g,0,none⟩∧Pt g (n*2) w)) :
 Calls Tryz.prog 91 #[.slice ao n cap,.int .i64 K0] w fun e w'=>e=.returned (.int .i64 (K0+2*n:Nat))∧Chg (fun b=>b=g∧0<n) w w'∧KP w w':=by
 have HAO:=H_ hao
 clear hao
 go_enter Tryz.func91,Tryz.ntmps91
 go_wp2_with fail
 go_loopw [5,1] (fun x z wr=>∃i:Nat,x=.int .i64 (i:Int)∧z=.int .i64 ((K0:Int)+2*(i:Int))∧i≤n∧Hid (Chg (fun b=>b=g∧0<n) w wr)∧Hid (KP w wr)) (fun x _ _=>n-(intOf x).toNat)
 case atStart=>exact ⟨0,rfl,by simp,by omega,H_ (Chg.refl _ _),H_ (KP.refl _)⟩
 case round =>
  obtain ⟨i,rfl,rfl,hi,HG,HA⟩:=hrel
  by_cases hin:i=n
  ·subst hin
   go_wp2_with fail
   go_ret
   exact ⟨by go_num,HG.out,HA.out⟩
  ·have h1:(i:Int)<(n:Int):=by omega
   have h0:0<n:=by omega
   obtain rfl:ao=some ⟨g,0,none⟩:=by
    rcases HAO.out with q|q
    ·omega
    ·exact q.1
   have HP:Hid (Pt g (n*2) wr):=H_ (HA.out _ _ (by
    rcases HAO.out with q|q
    ·omega
    ·exact q.2))
   obtain ⟨v0,c0⟩:=HP.out.has (i*2) (by omega)
   have f0:=HP.out.free (i*2) (by omega)
   obtain ⟨v1,c1⟩:=HP.out.has (i*2+1) (by omega)
   have f1:=HP.out.free (i*2+1) (by omega)
   have HS:=H_ ((HG.out.grown (grown_set _ g (i*2) (.int .i64 ((K0:Int)+2*(i:Int)))) ⟨rfl,h0⟩).grown (grown_set _ g (i*2+1) (.int .i64 ((K0:Int)+2*(i:Int)+1))) ⟨rfl,h0⟩)
   have HK:=H_ ((HA.out.put g (i*2) (.int .i64 ((K0:Int)+2*(i:Int)))).put g (i*2+1) (.int .i64 ((K0:Int)+2*(i:Int)+1)))
   clear HG HA HP
   go_wp2_with fail
   go_roundw
   case rel=>exact ⟨i+1,by go_num,by go_num,by omega,HS,HK⟩
   case measure=>simp [intOf];omega
def Zin (f k g t:Nat):Prop:=∀(a:Option Addr) (n c:Nat) (z:Int) (K:Nat) (W:World),z=(K:Nat)→n≤1048576→1≤K→K≤800000000000000000→WinR.Inn g t a n (n*k) W→Calls Tryz.prog f #[.slice a n c,.int .i64 z] W fun e w'=>e=.returned (.int .i64 (K+k*n:Nat))∧Chg (fun b=>g<b∧b<t) W w'∧KP W w'
theorem zin {f k:Nat} (hz:∀(g:Nat) (ao:Option Addr) (n cap K0:Nat) (w:World),n≤1048576→1≤K0→K0≤800000000000000000→(n=0∨(ao=some ⟨g,0,none⟩∧Pt g (n*k) w))→Calls Tryz.prog f #[.slice ao n cap,.int .i64 K0] w fun e w'=>e=.returned (.int .i64 (K0+k*n:Nat))∧Chg (fun b=>b=g∧0<n) w w'∧KP w w') (g t:Nat):Zin f k g t:=by
 intro a n c z K W e hn h1 hK hI
 subst e
 rcases hI with h0|⟨g',e1,e2,e3,e4⟩
 ·exact (hz 0 a n c K W hn h1 hK (.inl h0)).mono fun e w' h=>⟨h.1,h.2.1.wide (fun b q=>by omega),h.2.2⟩
 ·exact (hz g' a n c K W hn h1 hK (.inr ⟨e1,e4⟩)).mono fun e w' h=>⟨h.1,h.2.1.wide (fun b q=>by omega),h.2.2⟩
theorem zputWX {g t n o:Nat} {ws:List WinR.Wd} {W:World} (h:WinR.WX g t n ws W) (ho:o % 8<6) (v:Value):WinR.WX g t n ws (W.setCell ⟨g,o,none⟩ v):=fun j hj=>by
 obtain ⟨ta,tc,ha,hc',c6,c7,n1,n2⟩:=h j hj
 exact ⟨ta,tc,ha,hc',(cell_far _ _ (by omega) v).trans c6,(cell_far _ _ (by omega) v).trans c7,n1.put,n2.put⟩
theorem zchgWX {g t n:Nat} {ws:List WinR.Wd} {S:Nat→Prop} {W W':World} (h:WinR.WX g t n ws W) (hg:g<W.heap.size) (hc:Chg S W W') (hS:∀b,S b→b≠g) (hk:∀p m,g<p→p<t→Pt p m W→Pt p m W'):WinR.WX g t n ws W':=fun j hj=>by
 obtain ⟨ta,tc,ha,hc',c6,c7,n1,n2⟩:=h j hj
 have f:=fun o=>World.cell?_of_block (a:=⟨g,o,none⟩) (hc.block g hg (fun q=>hS g q rfl))
 exact ⟨ta,tc,ha,hc',(f _).trans c6,(f _).trans c7,n1.imp id (fun ⟨g',e1,e2,e3,e4⟩=>⟨g',e1,e2,e3,hk _ _ e2 e3 e4⟩),n2.imp id (fun ⟨g',e1,e2,e3,e4⟩=>⟨g',e1,e2,e3,hk _ _ e2 e3 e4⟩)⟩
theorem zWns (g t cap K0 n:Nat) (ws:List WinR.Wd) (w:World) (hn:n≤1048576) (hln:∀j,j<n→(ws.getD j WinR.Wd.zero).ts.length≤1048576∧(ws.getD j WinR.Wd.zero).hs.length≤1048576) (h1:1≤K0) (hK:K0≤80000000000000000) (ht:g<t) (hP:Pt g (n*8) w) (hX:WinR.WX g t n ws w) :
 Calls Tryz.prog 41 #[.slice (some ⟨g,0,none⟩) n cap,.int .i64 K0] w fun e w'=>(∃K:Nat,e=.returned (.int .i64 K)∧1≤K∧K≤K0+4000000*n)∧Chg (fun b=>g≤b∧b<t) w w'∧KP w w':=by
 have HLN:=H_ hln
 have HX0:=H_ hX
 have HP0:=H_ hP
 have HT:Hid (∀(z:Int) (K:Nat),z=K→1≤K→K≤900000000000000000→∀w,Calls Tryz.prog 89 #[.int .i64 z] w fun e w'=>(∃T,e=.returned (.string T))∧Below w.heap.size w w'):=H_ (fun z K e h0 h w=>by subst e;exact mark_some K h0 (by omega) w)
 have HZ0:Hid (Zin 90 1 g t):=H_ (zin (fun g ao n cap K0 w a b c d=>(zStr g ao n cap K0 w a b c d).mono fun e w' h=>⟨by rw [Nat.one_mul];exact h.1,h.2⟩) g t)
 have HZ1:Hid (Zin 91 2 g t):=H_ (zin zHrs g t)
 clear hln hX hP
 go_enter Tryz.func41,Tryz.ntmps41
 go_wp2_with fail
 go_loopw [5,1] (fun x z wr=>∃(i K:Nat),x=.int .i64 (i:Int)∧z=.int .i64 (K:Int)∧i≤n∧1≤K∧K≤K0+4000000*i∧Hid (WinR.WX g t n ws wr)∧Hid (Chg (fun b=>g≤b∧b<t) w wr)∧Hid (KP w wr)) (fun x _ _=>n-(intOf x).toNat)
 case atStart=>exact ⟨0,K0,rfl,rfl,by omega,by omega,by omega,HX0,H_ (Chg.refl _ _),H_ (KP.refl _)⟩
 case round =>
  obtain ⟨i,K,rfl,rfl,hi,k0,k1,HX,HG,HA⟩:=hrel
  by_cases hin:i=n
  ·subst hin
   go_wp2_with fail
   go_ret
   exact ⟨⟨K,rfl,by omega,by omega⟩,HG.out,HA.out⟩
  ·have h1:(i:Int)<(n:Int):=by omega
   have HP:Hid (Pt g (n*8) wr):=H_ (HA.out _ _ HP0.out)
   have hgl:=HP.out.lt
   go_wp2_with fail
   refine (HT.out _ K (by push_cast;omega) (by omega) (by omega) _).mono ?_
   rintro e w1 ⟨⟨T0,rfl⟩,hb⟩
   replace HP:=H_ (HP.out.below hb)
   replace HX:=H_ (zchgWX HX.out (by assumption) (Chg.of_below (S:=fun _=>False) hb) (fun _ q=>q.elim) (fun _ _ _ _ q=>q.below hb))
   replace HG:=H_ (HG.out.below hb)
   replace HA:=H_ (HA.out.below hb)
   clear hb hgl
   have hgl:=HP.out.lt
   obtain ⟨v0,c0⟩:=HP.out.has (i*8) (by omega)
   have f0:=HP.out.free (i*8) (by omega)
   obtain ⟨W0,hW0⟩:∃z,z=(w1.setCell ⟨g,i*8,none⟩ (.string T0)):=⟨_,rfl⟩
   have HX2:Hid (WinR.WX g t n ws W0):=H_ (by rw [hW0];exact (zputWX HX.out (by omega) _))
   have HP2:Hid (Pt g (n*8) W0):=H_ (by rw [hW0];exact (HP.out.set _ _))
   have HG2:Hid (Chg (fun b=>g≤b∧b<t) w W0):=H_ (by rw [hW0];exact (HG.out.grown (grown_set _ g (i*8) _) ⟨Nat.le_refl _,ht⟩))
   have HA2:Hid (KP w W0):=H_ (by rw [hW0];exact (HA.out.put g (i*8) _))
   have HW:=H_ hW0
   clear hW0 HX HP HG HA
   clear hgl
   have hgl:=HP2.out.lt
   go_wp2_with fail
   rw [←HW.out]
   clear HW c0 f0
   have HX:=HX2
   have HP:=HP2
   have HG:=HG2
   have HA:=HA2
   clear HX2 HP2 HG2 HA2
   refine (HT.out _ (K+1) (by push_cast;omega) (by omega) (by omega) _).mono ?_
   rintro e w2 ⟨⟨T1,rfl⟩,hb⟩
   replace HP:=H_ (HP.out.below hb)
   replace HX:=H_ (zchgWX HX.out (by assumption) (Chg.of_below (S:=fun _=>False) hb) (fun _ q=>q.elim) (fun _ _ _ _ q=>q.below hb))
   replace HG:=H_ (HG.out.below hb)
   replace HA:=H_ (HA.out.below hb)
   clear hb hgl
   have hgl:=HP.out.lt
   obtain ⟨v1,c1⟩:=HP.out.has (i*8+1) (by omega)
   have f1:=HP.out.free (i*8+1) (by omega)
   obtain ⟨v2,c2⟩:=HP.out.has (i*8+2) (by omega)
   have f2:=HP.out.free (i*8+2) (by omega)
   obtain ⟨v3,c3⟩:=HP.out.has (i*8+3) (by omega)
   have f3:=HP.out.free (i*8+3) (by omega)
   obtain ⟨v4,c4⟩:=HP.out.has (i*8+4) (by omega)
   have f4:=HP.out.free (i*8+4) (by omega)
   obtain ⟨v5,c5⟩:=HP.out.has (i*8+5) (by omega)
   have f5:=HP.out.free (i*8+5) (by omega)
   obtain ⟨ta,tc,ha,hc',hIN⟩:=HX.out i (by omega)
   obtain ⟨c6,c7,n1,n2⟩:=hIN
   have HN1:=H_ n1
   have HN2:=H_ n2
   clear n1 n2
   obtain ⟨W1,hW1⟩:∃z,z=(((((w2.setCell ⟨g,i*8+1,none⟩ (.string T1)).setCell ⟨g,i*8+2,none⟩ (.int .i64 ((K:Int)+1+1))).setCell ⟨g,i*8+3,none⟩ (.int .i64 ((K:Int)+1+1+1))).setCell ⟨g,i*8+4,none⟩ (.int .i64 ((K:Int)+1+1+1+1))).setCell ⟨g,i*8+5,none⟩ (.int .i64 ((K:Int)+1+1+1+1+1))):=⟨_,rfl⟩
   have HX2:Hid (WinR.WX g t n ws W1):=H_ (by rw [hW1];exact (zputWX (zputWX (zputWX (zputWX (zputWX HX.out (by omega) _) (by omega) _) (by omega) _) (by omega) _) (by omega) _))
   have HP2:Hid (Pt g (n*8) W1):=H_ (by rw [hW1];exact (((((HP.out.set _ _).set _ _).set _ _).set _ _).set _ _))
   have HG2:Hid (Chg (fun b=>g≤b∧b<t) w W1):=H_ (by rw [hW1];exact (((((HG.out.grown (grown_set _ g (i*8+1) _) ⟨Nat.le_refl _,ht⟩).grown (grown_set _ g (i*8+2) _) ⟨Nat.le_refl _,ht⟩).grown (grown_set _ g (i*8+3) _) ⟨Nat.le_refl _,ht⟩).grown (grown_set _ g (i*8+4) _) ⟨Nat.le_refl _,ht⟩).grown (grown_set _ g (i*8+5) _) ⟨Nat.le_refl _,ht⟩))
   have HA2:Hid (KP w W1):=H_ (by rw [hW1];exact (((((HA.out.put g (i*8+1) _).put g (i*8+2) _).put g (i*8+3) _).put g (i*8+4) _).put g (i*8+5) _))
   have HM0:Hid (WinR.Inn g t ta ((ws.getD i WinR.Wd.zero).ts.length) (((ws.getD i WinR.Wd.zero).ts.length)*1) W1):=H_ (by rw [hW1];exact (WinR.Inn.put (g:=g) (WinR.Inn.put (g:=g) (WinR.Inn.put (g:=g) (WinR.Inn.put (g:=g) (WinR.Inn.put (g:=g) HN1.out))))))
   have hl:=HLN.out i (by omega)
   have hl0:=hl.1
   have hl1:=hl.2
   clear hl
   generalize hq0:(ws.getD i WinR.Wd.zero).ts.length=l0 at *
   have HQ0:=H_ hq0
   clear hq0
   generalize hq1:(ws.getD i WinR.Wd.zero).hs.length=l1 at *
   have HQ1:=H_ hq1
   clear hq1
   have HW:=H_ hW1
   clear hW1 HX HP HG HA
   clear hgl
   have hgl:=HP2.out.lt
   clear HN1 HN2
   go_wp2_with fail
   rw [←HW.out]
   clear HW c1 f1 c2 f2 c3 f3 c4 f4 c5 f5
   have HX:=HX2
   have HP:=HP2
   have HG:=HG2
   have HA:=HA2
   clear HX2 HP2 HG2 HA2
   refine (HZ0.out _ _ _ _ (K+6) _ (by push_cast;omega) hl0 (by omega) (by omega) HM0.out).mono ?_
   rintro e u0 ⟨rfl,hc,hk⟩
   replace HX:=H_ (zchgWX HX.out hgl hc (fun b q=>by omega) (fun p m _ _ h=>hk p m h))
   replace HP:=H_ (hk _ _ HP.out)
   replace HG:=H_ (HG.out.trans (hc.wide (fun b q=>by omega)))
   replace HA:=H_ (HA.out.trans hk)
   clear hc hk hgl
   have hgl:=HP.out.lt
   obtain ⟨ta2,tc2,ha2,hc2,_,d7,_,m2⟩:=HX.out i (by omega)
   rw [HQ1.out] at d7 m2
   have HM1:=H_ m2
   clear m2
   go_wp2_with fail
   refine (HZ1.out _ _ _ _ ((K+6)+1*l0) _ (by push_cast;omega) hl1 (by omega) (by omega) HM1.out).mono ?_
   rintro e u1 ⟨rfl,hc,hk⟩
   replace HX:=H_ (zchgWX HX.out hgl hc (fun b q=>by omega) (fun p m _ _ h=>hk p m h))
   replace HP:=H_ (hk _ _ HP.out)
   replace HG:=H_ (HG.out.trans (hc.wide (fun b q=>by omega)))
   replace HA:=H_ (HA.out.trans hk)
   clear hc hk
   go_wp2_with fail
   go_roundw
   case rel=>exact ⟨i+1,(((K+6)+1*l0)+2*l1),by go_num,by go_num,by omega,by omega,by omega,HX,HG,HA⟩
   case measure=>simp [intOf];omega
end EngR
end Go.Proofs.YtnceeaccbcfopaaGreatDoor
namespace Go.Proofs.YtnceeaccbcfopaaGreatDoor
open Go.ChangeShapes Go.WideShapes Go.RowKit
namespace Lay
theorem own:ownKnob Tryz.prog.godebug=none:=by kernel_rfl
theorem laidOut:laidOutB Tryz.prog=true:=by kernel_rfl
theorem gv:Tryz.prog.globalNamed "loop.example/g00562/impl.monthLengths"=some 1:=by kernel_rfl
theorem gt:(Tryz.prog.globals[1]?).map (·.type)=some 279:=by kernel_rfl
theorem cellsE:Tryz.prog.cellsOf 2=1:=by kernel_rfl
theorem cellsT:Tryz.prog.cellsOf 279=12:=by kernel_rfl
def laid {H:Type}:List (String × DataW H):=[("loop.example/g00562/impl.monthLengths",Rows.laid_loop_example_g00562_impl_monthLengths)]
theorem of_tab {W:World} (hT:Lib.TabIs Tryz.prog W "loop.example/g00562/impl.monthLengths" .i64 DateR.tab):DateR.Laid W:=by
 have hc:∀k:Nat,k<12→W.cell? ⟨1,k,none⟩=some (.int .i64 (DateR.tab.getD k 0)):=fun k hk=>hT.cell gv k hk
 refine ⟨?_,hc⟩
 rcases Nat.lt_or_ge 1 W.heap.size with h|h
 ·exact h
 ·have h0:W.heap[1]? = none:=Array.getElem?_eq_none h
  have:=hc 0 (by omega)
  simp [World.cell?,h0] at this
theorem of_laid {W:World} (h:laidMetH Tryz.prog laid W):DateR.Laid W:=by
 rw [MakeChecks.laidMetH_plain _ _ _ (by kernel_rfl)] at h
 exact of_tab (Lib.tabIs_of_head gv gt Tryz.underlying279 Tryz.underlying2 cellsE cellsT (zs:=DateR.tab) (k:=.i64) h)
theorem door_met (os:Os) (args:Array Value):laidMetH Tryz.prog laid ((World.doorLaid Tryz.prog 400 os).forCall (fun _ _=>0) ⟨#[],args,[]⟩).memory :=
 laidMetH_of_parts3 (fuel:=8) (laidMet_of_run' 8 (by kernel_rfl) (by kernel_rfl)) (by kernel_rfl) (by kernel_rfl)
end Lay
namespace Snm
theorem laidOut:laidOutB Tryz.prog=true:=by kernel_rfl
theorem own:ownKnob Tryz.prog.godebug=none:=by kernel_rfl
theorem gv:Tryz.prog.globalNamed "loop.example/g00562/impl.errNoMeter"=some 0:=by kernel_rfl
theorem gt:(Tryz.prog.globals[0]?).map (·.type)=some 175:=by kernel_rfl
theorem star : "*" ++ "errors.errorString" = "*errors.errorString":=by decide
theorem row (u:TypeId) (h:Tryz.prog.typeName? 3 u=some "*errors.errorString"):u=283 :=
 typeName_ptr_named (nm:= "errors.errorString") (by rw [star];kernel_rfl) (by kernel_rfl) (by decide) u (by rw [star];exact h)
theorem cellsE:Tryz.prog.cellsOf 309=1:=by kernel_rfl
theorem cellsS:Tryz.prog.cellsOf 9=1:=by kernel_rfl
def laid {H:Type}:List (String × DataW H):=[("loop.example/g00562/impl.errNoMeter",Rows.laid_loop_example_g00562_impl_errNoMeter)]
theorem of_laid {W:World} (h:laidMetH Tryz.prog laid W):∃a:Addr,W.var? Tryz.prog "loop.example/g00562/impl.errNoMeter"=some #[.iface 283 (.pointer (some a))]:=by
 rw [MakeChecks.laidMetH_plain _ _ _ (by kernel_rfl)] at h
 obtain ⟨a,s,hv,_⟩:=laid_sentinel h gv gt Tryz.underlying175 row Tryz.underlying283 Tryz.underlying309 rfl rfl Tryz.underlying9 cellsE cellsS
 exact ⟨a,hv⟩
theorem laid_of {W:World} {a:Addr} (h:W.var? Tryz.prog "loop.example/g00562/impl.errNoMeter"=some #[.iface 283 (.pointer (some a))]):CatR.Laid W:=by
 have hg:W.cell? ⟨0,0,none⟩=some (.iface 283 (.pointer (some a))):=by simpa using World.var?_cell gv h 0
 refine ⟨?_,a,hg⟩
 rcases Nat.lt_or_ge 0 W.heap.size with h|h
 ·exact h
 ·have h0:W.heap[0]? = none:=Array.getElem?_eq_none h
  simp [World.cell?,h0] at hg
theorem door_met (os:Os) (args:Array Value):laidMetH Tryz.prog laid ((World.doorLaid Tryz.prog 400 os).forCall (fun _ _=>0) ⟨#[],args,[]⟩).memory :=
 laidMetH_of_parts3 (fuel:=8) (laidMet_of_run' 8 (by kernel_rfl) (by kernel_rfl)) (by kernel_rfl) (by kernel_rfl)
end Snm
namespace LayE
theorem own:ownKnob Tryz.prog.godebug=none:=by kernel_rfl
theorem laidOut:laidOutB Tryz.prog=true:=by kernel_rfl
def Ok (w:World):Prop:=CatR.Laid w∧DateR.Laid w
theorem Ok.below {w w':World} (h:Ok w) (hb:Below w.heap.size w w'):Ok w':=⟨h.1.below hb,h.2.below hb⟩
def laid {H:Type}:List (String × DataW H):=[("loop.example/g00562/impl.monthLengths",Rows.laid_loop_example_g00562_impl_monthLengths),("loop.example/g00562/impl.errNoMeter",Rows.laid_loop_example_g00562_impl_errNoMeter)]
theorem part1:(laid (H:=Unit)).filter (fun x=>x.1 != "loop.example/g00562/impl.errNoMeter")=Lay.laid:=by rfl
theorem part2:(laid (H:=Unit)).filter (fun x=>x.1 == "loop.example/g00562/impl.errNoMeter")=Snm.laid:=by rfl
theorem of_laid {W:World} (h:laidMetH Tryz.prog laid W):Ok W:=by
 have h1:=h.filter (fun x=>x.1 != "loop.example/g00562/impl.errNoMeter")
 have h2:=h.filter (fun x=>x.1 == "loop.example/g00562/impl.errNoMeter")
 rw [part1] at h1
 rw [part2] at h2
 obtain ⟨a,hv⟩:=Snm.of_laid h2
 exact ⟨Snm.laid_of hv,Lay.of_laid h1⟩
theorem door_met (os:Os) (args:Array Value):laidMetH Tryz.prog laid ((World.doorLaid Tryz.prog 400 os).forCall (fun _ _=>0) ⟨#[],args,[]⟩).memory :=
 laidMetH_of_parts3 (fuel:=8) (laidMet_of_run' 8 (by kernel_rfl) (by kernel_rfl)) (by kernel_rfl) (by kernel_rfl)
end LayE
end Go.Proofs.YtnceeaccbcfopaaGreatDoor
