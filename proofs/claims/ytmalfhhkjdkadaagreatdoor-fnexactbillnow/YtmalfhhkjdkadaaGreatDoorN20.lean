/-
  Windows of one's own are marked, however far: nothing beside their own blocks is written. The conditions: sizes of at most 1048576.
  From the row's premise on the program's table to the walk's: its variable holds the months' days; and a world that meets the premise. No condition.
  From the row's premise on the program's own error to the walk's: its variable holds an error; and a world that meets the premise. No condition.
  From the row's premise on the program's own error to the walk's: its variable holds an error; and a world that meets the premise. No condition.
  From the row's premise on the program's table and its two own errors to the walk's; and a world that meets the premise. No condition.
-/
import Derived.Test.YtmalfhhkjdkadaaGreatDoorTie
import Derived.ChangeSame
import Derived.ChangeVars
import Derived.JoinedOf
import Derived.ProofKit
import Derived.LaidLaws
import Derived.LaidMore
import Derived.LaidHandle
import Derived.MakeChecks
import Derived.Lib.LaidTab
import Derived.Stop.Joined
import Derived.Stop.LaidErr
import Derived.LaidSub
import Derived.OpenShut
import Derived.Test.YtmalfhhkjdkadaaGreatDoorN19
namespace Go.Proofs.YtmalfhhkjdkadaaGreatDoor
open Go.ChangeShapes Go.WideShapes Go.ChangeAt Go.RowKit
set_option linter.unusedVariables false
namespace EngR
open CatR ChG
open RowG (grown_set)
open EvtR (Pt cell_far)
def KP (w w':World):Prop:=∀p n,Pt p n w→Pt p n w'
theorem KP.refl (w:World):KP w w:=fun _ _ h=>h
theorem KP.below {w w1 w2:World} (h:KP w w1) (hb:Below w1.heap.size w1 w2):KP w w2:=fun p n q=>(h p n q).below hb
theorem KP.put {w w1:World} (h:KP w w1) (g o:Nat) (v:Value):KP w (w1.setCell ⟨g,o,none⟩ v):=fun p n q=>WinR.ptA (h p n q)
theorem KP.trans {w w1 w2:World} (h:KP w w1) (h2:KP w1 w2):KP w w2:=fun p n q=>h2 p n (h p n q)
set_option maxRecDepth 100000 in
set_option maxHeartbeats 4000000 in
theorem zStr (g:Nat) (ao:Option Addr) (n cap K0:Nat) (w:World) (hn:n≤1048576) (h1:1≤K0) (hK:K0≤800000000000000000) (hao:n=0∨(ao=some ⟨g,0,none⟩∧Pt g (n*1) w)) :
 Calls Tryz.prog 87 #[.slice ao n cap,.int .i64 K0] w fun e w'=>e=.returned (.int .i64 (K0+n:Nat))∧Chg (fun b=>b=g∧0<n) w w'∧KP w w':=by
 have HAO:=hid_intro hao
 have HT:Hid (∀(z:Int) (K:Nat),z=K→1≤K→K≤900000000000000000→∀w,Calls Tryz.prog 86 #[.int .i64 z] w fun e w'=>(∃T,e=.returned (.string T))∧Below w.heap.size w w'):=hid_intro (fun z K e h0 h w=>by subst e;exact mark_some K h0 (by omega) w)
 clear hao
 go_enter Tryz.func87,Tryz.ntmps87
 go_wp2_with fail
 go_loopw [5,1] (fun x z wr=>∃i:Nat,x=.int .i64 (i:Int)∧z=.int .i64 ((K0:Int)+(i:Int))∧i≤n∧Hid (Chg (fun b=>b=g∧0<n) w wr)∧Hid (KP w wr)) (fun x _ _=>n-(intOf x).toNat)
 case atStart=>exact ⟨0,rfl,by simp,by omega,hid_intro (Chg.refl _ _),hid_intro (KP.refl _)⟩
 case round =>
  obtain ⟨i,rfl,rfl,hi,HG,HA⟩:=hrel
  by_cases hin:i=n
  ·subst hin
   go_wp2_with fail
   go_ret
   exact ⟨by go_num,HG.out,HA.out⟩
  ·have h1:(i:Int)<(n:Int):=by omega
   have h0:0<n:=by omega
   obtain rfl:ao=some ⟨g,0,none⟩:=by
    rcases HAO.out with q|q
    ·omega
    ·exact q.1
   have HP:Hid (Pt g (n*1) wr):=hid_intro (HA.out _ _ (by
    rcases HAO.out with q|q
    ·omega
    ·exact q.2))
   go_wp2_with fail
   refine (HT.out _ (K0+i) (by push_cast;omega) (by omega) (by omega) _).mono ?_
   rintro e w1 ⟨⟨T,rfl⟩,hb⟩
   replace HP:=hid_intro (HP.out.below hb)
   replace HG:=hid_intro (HG.out.below hb)
   replace HA:=hid_intro (HA.out.below hb)
   obtain ⟨v0,c0⟩:=HP.out.has (i) (by omega)
   have f0:=HP.out.free (i) (by omega)
   have HS:=hid_intro (HG.out.grown (grown_set _ g (i) (.string T)) ⟨rfl,h0⟩)
   have HK:=hid_intro (HA.out.put g (i) (.string T))
   clear HG HA HP hb
   go_wp2_with fail
   go_roundw
   case rel=>exact ⟨i+1,by go_num,by (congr 1)<;>omega,by omega,HS,HK⟩
   case measure=>simp [intOf];omega
set_option maxRecDepth 100000 in
set_option maxHeartbeats 4000000 in
theorem zHrs (g:Nat) (ao:Option Addr) (n cap K0:Nat) (w:World) (hn:n≤1048576) (h1:1≤K0) (hK:K0≤800000000000000000) (hao:n=0∨(ao=some ⟨g,0,none⟩∧Pt g (n*2) w)) :
 Calls Tryz.prog 88 #[.slice ao n cap,.int .i64 K0] w fun e w'=>e=.returned (.int .i64 (K0+2*n:Nat))∧Chg (fun b=>b=g∧0<n) w w'∧KP w w':=by
 have HAO:=hid_intro hao
 clear hao
 go_enter Tryz.func88,Tryz.ntmps88
 go_wp2_with fail
 go_loopw [5,1] (fun x z wr=>∃i:Nat,x=.int .i64 (i:Int)∧z=.int .i64 ((K0:Int)+2*(i:Int))∧i≤n∧Hid (Chg (fun b=>b=g∧0<n) w wr)∧Hid (KP w wr)) (fun x _ _=>n-(intOf x).toNat)
 case atStart=>exact ⟨0,rfl,by simp,by omega,hid_intro (Chg.refl _ _),hid_intro (KP.refl _)⟩
 case round =>
  obtain ⟨i,rfl,rfl,hi,HG,HA⟩:=hrel
  by_cases hin:i=n
  ·subst hin
   go_wp2_with fail
   go_ret
   exact ⟨by go_num,HG.out,HA.out⟩
  ·have h1:(i:Int)<(n:Int):=by omega
   have h0:0<n:=by omega
   obtain rfl:ao=some ⟨g,0,none⟩:=by
    rcases HAO.out with q|q
    ·omega
    ·exact q.1
   have HP:Hid (Pt g (n*2) wr):=hid_intro (HA.out _ _ (by
    rcases HAO.out with q|q
    ·omega
    ·exact q.2))
   obtain ⟨v0,c0⟩:=HP.out.has (i*2) (by omega)
   have f0:=HP.out.free (i*2) (by omega)
   obtain ⟨v1,c1⟩:=HP.out.has (i*2+1) (by omega)
   have f1:=HP.out.free (i*2+1) (by omega)
   have HS:=hid_intro ((HG.out.grown (grown_set _ g (i*2) (.int .i64 ((K0:Int)+2*(i:Int)))) ⟨rfl,h0⟩).grown (grown_set _ g (i*2+1) (.int .i64 ((K0:Int)+2*(i:Int)+1))) ⟨rfl,h0⟩)
   have HK:=hid_intro ((HA.out.put g (i*2) (.int .i64 ((K0:Int)+2*(i:Int)))).put g (i*2+1) (.int .i64 ((K0:Int)+2*(i:Int)+1)))
   clear HG HA HP
   go_wp2_with fail
   go_roundw
   case rel=>exact ⟨i+1,by go_num,by go_num,by omega,HS,HK⟩
   case measure=>simp [intOf];omega
def Zin (f k g t:Nat):Prop:=∀(a:Option Addr) (n c:Nat) (z:Int) (K:Nat) (W:World),z=(K:Nat)→n≤1048576→1≤K→K≤800000000000000000→WinR.Inn g t a n (n*k) W→Calls Tryz.prog f #[.slice a n c,.int .i64 z] W fun e w'=>e=.returned (.int .i64 (K+k*n:Nat))∧Chg (fun b=>g<b∧b<t) W w'∧KP W w'
theorem zin {f k:Nat} (hz:∀(g:Nat) (ao:Option Addr) (n cap K0:Nat) (w:World),n≤1048576→1≤K0→K0≤800000000000000000→(n=0∨(ao=some ⟨g,0,none⟩∧Pt g (n*k) w))→Calls Tryz.prog f #[.slice ao n cap,.int .i64 K0] w fun e w'=>e=.returned (.int .i64 (K0+k*n:Nat))∧Chg (fun b=>b=g∧0<n) w w'∧KP w w') (g t:Nat):Zin f k g t:=by
 intro a n c z K W e hn h1 hK hI
 subst e
 rcases hI with h0|⟨g',e1,e2,e3,e4⟩
 ·exact (hz 0 a n c K W hn h1 hK (.inl h0)).mono fun e w' h=>⟨h.1,h.2.1.wide (fun b q=>by omega),h.2.2⟩
 ·exact (hz g' a n c K W hn h1 hK (.inr ⟨e1,e4⟩)).mono fun e w' h=>⟨h.1,h.2.1.wide (fun b q=>by omega),h.2.2⟩
theorem zputWX {g t n o:Nat} {ws:List WinR.Wd} {W:World} (h:WinR.WX g t n ws W) (ho:o % 8<6) (v:Value):WinR.WX g t n ws (W.setCell ⟨g,o,none⟩ v):=fun j hj=>by
 obtain ⟨ta,tc,ha,hc',c6,c7,n1,n2⟩:=h j hj
 exact ⟨ta,tc,ha,hc',(cell_far _ _ (by omega) v).trans c6,(cell_far _ _ (by omega) v).trans c7,n1.put,n2.put⟩
theorem zchgWX {g t n:Nat} {ws:List WinR.Wd} {S:Nat→Prop} {W W':World} (h:WinR.WX g t n ws W) (hg:g<W.heap.size) (hc:Chg S W W') (hS:∀b,S b→b≠g) (hk:∀p m,g<p→p<t→Pt p m W→Pt p m W'):WinR.WX g t n ws W':=fun j hj=>by
 obtain ⟨ta,tc,ha,hc',c6,c7,n1,n2⟩:=h j hj
 have f:=fun o=>World.cell?_of_block (a:=⟨g,o,none⟩) (hc.block g hg (fun q=>hS g q rfl))
 exact ⟨ta,tc,ha,hc',(f _).trans c6,(f _).trans c7,n1.imp id (fun ⟨g',e1,e2,e3,e4⟩=>⟨g',e1,e2,e3,hk _ _ e2 e3 e4⟩),n2.imp id (fun ⟨g',e1,e2,e3,e4⟩=>⟨g',e1,e2,e3,hk _ _ e2 e3 e4⟩)⟩
set_option maxRecDepth 100000 in
set_option maxHeartbeats 8000000 in
theorem zWns (g t cap K0 n:Nat) (ws:List WinR.Wd) (w:World) (hn:n≤1048576) (hln:∀j,j<n→(ws.getD j WinR.Wd.zero).ts.length≤1048576∧(ws.getD j WinR.Wd.zero).hs.length≤1048576) (h1:1≤K0) (hK:K0≤80000000000000000) (ht:g<t) (hP:Pt g (n*8) w) (hX:WinR.WX g t n ws w) :
 Calls Tryz.prog 39 #[.slice (some ⟨g,0,none⟩) n cap,.int .i64 K0] w fun e w'=>(∃K:Nat,e=.returned (.int .i64 K)∧1≤K∧K≤K0+4000000*n)∧Chg (fun b=>g≤b∧b<t) w w'∧KP w w':=by
 have HLN:=hid_intro hln
 have HX0:=hid_intro hX
 have HP0:=hid_intro hP
 have HT:Hid (∀(z:Int) (K:Nat),z=K→1≤K→K≤900000000000000000→∀w,Calls Tryz.prog 86 #[.int .i64 z] w fun e w'=>(∃T,e=.returned (.string T))∧Below w.heap.size w w'):=hid_intro (fun z K e h0 h w=>by subst e;exact mark_some K h0 (by omega) w)
 have HZ0:Hid (Zin 87 1 g t):=hid_intro (zin (fun g ao n cap K0 w a b c d=>(zStr g ao n cap K0 w a b c d).mono fun e w' h=>⟨by rw [Nat.one_mul];exact h.1,h.2⟩) g t)
 have HZ1:Hid (Zin 88 2 g t):=hid_intro (zin zHrs g t)
 clear hln hX hP
 go_enter Tryz.func39,Tryz.ntmps39
 go_wp2_with fail
 go_loopw [5,1] (fun x z wr=>∃(i K:Nat),x=.int .i64 (i:Int)∧z=.int .i64 (K:Int)∧i≤n∧1≤K∧K≤K0+4000000*i∧Hid (WinR.WX g t n ws wr)∧Hid (Chg (fun b=>g≤b∧b<t) w wr)∧Hid (KP w wr)) (fun x _ _=>n-(intOf x).toNat)
 case atStart=>exact ⟨0,K0,rfl,rfl,by omega,by omega,by omega,HX0,hid_intro (Chg.refl _ _),hid_intro (KP.refl _)⟩
 case round =>
  obtain ⟨i,K,rfl,rfl,hi,k0,k1,HX,HG,HA⟩:=hrel
  by_cases hin:i=n
  ·subst hin
   go_wp2_with fail
   go_ret
   exact ⟨⟨K,rfl,by omega,by omega⟩,HG.out,HA.out⟩
  ·have h1:(i:Int)<(n:Int):=by omega
   have HP:Hid (Pt g (n*8) wr):=hid_intro (HA.out _ _ HP0.out)
   have hgl:=HP.out.lt
   go_wp2_with fail
   refine (HT.out _ K (by push_cast;omega) (by omega) (by omega) _).mono ?_
   rintro e w1 ⟨⟨T0,rfl⟩,hb⟩
   replace HP:=hid_intro (HP.out.below hb)
   replace HX:=hid_intro (zchgWX HX.out (by assumption) (Chg.of_below (S:=fun _=>False) hb) (fun _ q=>q.elim) (fun _ _ _ _ q=>q.below hb))
   replace HG:=hid_intro (HG.out.below hb)
   replace HA:=hid_intro (HA.out.below hb)
   clear hb hgl
   have hgl:=HP.out.lt
   obtain ⟨v0,c0⟩:=HP.out.has (i*8) (by omega)
   have f0:=HP.out.free (i*8) (by omega)
   obtain ⟨W0,hW0⟩:∃z,z=(w1.setCell ⟨g,i*8,none⟩ (.string T0)):=⟨_,rfl⟩
   have HX2:Hid (WinR.WX g t n ws W0):=hid_intro (by rw [hW0];exact (zputWX HX.out (by omega) _))
   have HP2:Hid (Pt g (n*8) W0):=hid_intro (by rw [hW0];exact (HP.out.set _ _))
   have HG2:Hid (Chg (fun b=>g≤b∧b<t) w W0):=hid_intro (by rw [hW0];exact (HG.out.grown (grown_set _ g (i*8) _) ⟨Nat.le_refl _,ht⟩))
   have HA2:Hid (KP w W0):=hid_intro (by rw [hW0];exact (HA.out.put g (i*8) _))
   have HW:=hid_intro hW0
   clear hW0 HX HP HG HA
   clear hgl
   have hgl:=HP2.out.lt
   go_wp2_with fail
   rw [←HW.out]
   clear HW c0 f0
   have HX:=HX2
   have HP:=HP2
   have HG:=HG2
   have HA:=HA2
   clear HX2 HP2 HG2 HA2
   refine (HT.out _ (K+1) (by push_cast;omega) (by omega) (by omega) _).mono ?_
   rintro e w2 ⟨⟨T1,rfl⟩,hb⟩
   replace HP:=hid_intro (HP.out.below hb)
   replace HX:=hid_intro (zchgWX HX.out (by assumption) (Chg.of_below (S:=fun _=>False) hb) (fun _ q=>q.elim) (fun _ _ _ _ q=>q.below hb))
   replace HG:=hid_intro (HG.out.below hb)
   replace HA:=hid_intro (HA.out.below hb)
   clear hb hgl
   have hgl:=HP.out.lt
   obtain ⟨v1,c1⟩:=HP.out.has (i*8+1) (by omega)
   have f1:=HP.out.free (i*8+1) (by omega)
   obtain ⟨v2,c2⟩:=HP.out.has (i*8+2) (by omega)
   have f2:=HP.out.free (i*8+2) (by omega)
   obtain ⟨v3,c3⟩:=HP.out.has (i*8+3) (by omega)
   have f3:=HP.out.free (i*8+3) (by omega)
   obtain ⟨v4,c4⟩:=HP.out.has (i*8+4) (by omega)
   have f4:=HP.out.free (i*8+4) (by omega)
   obtain ⟨v5,c5⟩:=HP.out.has (i*8+5) (by omega)
   have f5:=HP.out.free (i*8+5) (by omega)
   obtain ⟨ta,tc,ha,hc',hIN⟩:=HX.out i (by omega)
   obtain ⟨c6,c7,n1,n2⟩:=hIN
   have HN1:=hid_intro n1
   have HN2:=hid_intro n2
   clear n1 n2
   obtain ⟨W1,hW1⟩:∃z,z=(((((w2.setCell ⟨g,i*8+1,none⟩ (.string T1)).setCell ⟨g,i*8+2,none⟩ (.int .i64 ((K:Int)+1+1))).setCell ⟨g,i*8+3,none⟩ (.int .i64 ((K:Int)+1+1+1))).setCell ⟨g,i*8+4,none⟩ (.int .i64 ((K:Int)+1+1+1+1))).setCell ⟨g,i*8+5,none⟩ (.int .i64 ((K:Int)+1+1+1+1+1))):=⟨_,rfl⟩
   have HX2:Hid (WinR.WX g t n ws W1):=hid_intro (by rw [hW1];exact (zputWX (zputWX (zputWX (zputWX (zputWX HX.out (by omega) _) (by omega) _) (by omega) _) (by omega) _) (by omega) _))
   have HP2:Hid (Pt g (n*8) W1):=hid_intro (by rw [hW1];exact (((((HP.out.set _ _).set _ _).set _ _).set _ _).set _ _))
   have HG2:Hid (Chg (fun b=>g≤b∧b<t) w W1):=hid_intro (by rw [hW1];exact (((((HG.out.grown (grown_set _ g (i*8+1) _) ⟨Nat.le_refl _,ht⟩).grown (grown_set _ g (i*8+2) _) ⟨Nat.le_refl _,ht⟩).grown (grown_set _ g (i*8+3) _) ⟨Nat.le_refl _,ht⟩).grown (grown_set _ g (i*8+4) _) ⟨Nat.le_refl _,ht⟩).grown (grown_set _ g (i*8+5) _) ⟨Nat.le_refl _,ht⟩))
   have HA2:Hid (KP w W1):=hid_intro (by rw [hW1];exact (((((HA.out.put g (i*8+1) _).put g (i*8+2) _).put g (i*8+3) _).put g (i*8+4) _).put g (i*8+5) _))
   have HM0:Hid (WinR.Inn g t ta ((ws.getD i WinR.Wd.zero).ts.length) (((ws.getD i WinR.Wd.zero).ts.length)*1) W1):=hid_intro (by rw [hW1];exact (WinR.Inn.put (g:=g) (WinR.Inn.put (g:=g) (WinR.Inn.put (g:=g) (WinR.Inn.put (g:=g) (WinR.Inn.put (g:=g) HN1.out))))))
   have hl:=HLN.out i (by omega)
   have hl0:=hl.1
   have hl1:=hl.2
   clear hl
   generalize hq0:(ws.getD i WinR.Wd.zero).ts.length=l0 at *
   have HQ0:=hid_intro hq0
   clear hq0
   generalize hq1:(ws.getD i WinR.Wd.zero).hs.length=l1 at *
   have HQ1:=hid_intro hq1
   clear hq1
   have HW:=hid_intro hW1
   clear hW1 HX HP HG HA
   clear hgl
   have hgl:=HP2.out.lt
   clear HN1 HN2
   go_wp2_with fail
   rw [←HW.out]
   clear HW c1 f1 c2 f2 c3 f3 c4 f4 c5 f5
   have HX:=HX2
   have HP:=HP2
   have HG:=HG2
   have HA:=HA2
   clear HX2 HP2 HG2 HA2
   refine (HZ0.out _ _ _ _ (K+6) _ (by push_cast;omega) hl0 (by omega) (by omega) HM0.out).mono ?_
   rintro e u0 ⟨rfl,hc,hk⟩
   replace HX:=hid_intro (zchgWX HX.out hgl hc (fun b q=>by omega) (fun p m _ _ h=>hk p m h))
   replace HP:=hid_intro (hk _ _ HP.out)
   replace HG:=hid_intro (HG.out.trans (hc.wide (fun b q=>by omega)))
   replace HA:=hid_intro (HA.out.trans hk)
   clear hc hk hgl
   have hgl:=HP.out.lt
   obtain ⟨ta2,tc2,ha2,hc2,_,d7,_,m2⟩:=HX.out i (by omega)
   rw [HQ1.out] at d7 m2
   have HM1:=hid_intro m2
   clear m2
   go_wp2_with fail
   refine (HZ1.out _ _ _ _ ((K+6)+1*l0) _ (by push_cast;omega) hl1 (by omega) (by omega) HM1.out).mono ?_
   rintro e u1 ⟨rfl,hc,hk⟩
   replace HX:=hid_intro (zchgWX HX.out hgl hc (fun b q=>by omega) (fun p m _ _ h=>hk p m h))
   replace HP:=hid_intro (hk _ _ HP.out)
   replace HG:=hid_intro (HG.out.trans (hc.wide (fun b q=>by omega)))
   replace HA:=hid_intro (HA.out.trans hk)
   clear hc hk
   go_wp2_with fail
   go_roundw
   case rel=>exact ⟨i+1,(((K+6)+1*l0)+2*l1),by go_num,by go_num,by omega,by omega,by omega,HX,HG,HA⟩
   case measure=>simp [intOf];omega
end EngR
end Go.Proofs.YtmalfhhkjdkadaaGreatDoor
namespace Go.Proofs.YtmalfhhkjdkadaaGreatDoor
open Go.ChangeShapes Go.WideShapes Go.RowKit
namespace Lay
theorem own:ownKnob Tryz.prog.godebug=none:=by kernel_rfl
theorem laidOut:laidOutB Tryz.prog=true:=by kernel_rfl
theorem gv:Tryz.prog.globalNamed "loop.example/g00562/impl.monthLengths"=some 1:=by kernel_rfl
theorem gt:(Tryz.prog.globals[1]?).map (·.type)=some 295:=by kernel_rfl
theorem cellsE:Tryz.prog.cellsOf 2=1:=by kernel_rfl
theorem cellsT:Tryz.prog.cellsOf 295=12:=by kernel_rfl
def laid {H:Type}:List (String × DataW H):=[("loop.example/g00562/impl.monthLengths",Rows.laid_loop_example_g00562_impl_monthLengths)]
theorem of_tab {W:World} (hT:Lib.TabIs Tryz.prog W "loop.example/g00562/impl.monthLengths" .i64 DateR.tab):DateR.Laid W:=by
 have hc:∀k:Nat,k<12→W.cell? ⟨1,k,none⟩=some (.int .i64 (DateR.tab.getD k 0)):=fun k hk=>hT.cell gv k hk
 refine ⟨?_,hc⟩
 rcases Nat.lt_or_ge 1 W.heap.size with h|h
 ·exact h
 ·have h0:W.heap[1]? = none:=Array.getElem?_eq_none h
  have:=hc 0 (by omega)
  simp [World.cell?,h0] at this
theorem of_laid {W:World} (h:laidMetH Tryz.prog laid W):DateR.Laid W:=by
 rw [MakeChecks.laidMetH_plain _ _ _ (by kernel_rfl)] at h
 exact of_tab (Lib.tabIs_of_head gv gt Tryz.underlying295 Tryz.underlying2 cellsE cellsT (zs:=DateR.tab) (k:=.i64) h)
theorem door_met (os:Os) (args:Array Value):laidMetH Tryz.prog laid ((World.doorLaid Tryz.prog 400 os).forCall (fun _ _=>0) ⟨#[],args,[]⟩).memory :=
 laidMetH_of_parts3 (fuel:=8) (laidMet_of_run' 8 (by kernel_rfl) (by kernel_rfl)) (by kernel_rfl) (by kernel_rfl)
end Lay
namespace Snm
theorem laidOut:laidOutB Tryz.prog=true:=by kernel_rfl
theorem own:ownKnob Tryz.prog.godebug=none:=by kernel_rfl
theorem gv:Tryz.prog.globalNamed "loop.example/g00562/impl.errNoMeter"=some 0:=by kernel_rfl
theorem gt:(Tryz.prog.globals[0]?).map (·.type)=some 184:=by kernel_rfl
theorem star : "*" ++ "errors.errorString" = "*errors.errorString":=by decide
theorem row (u:TypeId) (h:Tryz.prog.typeName? 3 u=some "*errors.errorString"):u=322 :=
 typeName_ptr_named (nm:= "errors.errorString") (by rw [star];kernel_rfl) (by kernel_rfl) (by decide) u (by rw [star];exact h)
theorem cellsE:Tryz.prog.cellsOf 347=1:=by kernel_rfl
theorem cellsS:Tryz.prog.cellsOf 9=1:=by kernel_rfl
def laid {H:Type}:List (String × DataW H):=[("loop.example/g00562/impl.errNoMeter",Rows.laid_loop_example_g00562_impl_errNoMeter)]
theorem of_laid {W:World} (h:laidMetH Tryz.prog laid W):∃a:Addr,W.var? Tryz.prog "loop.example/g00562/impl.errNoMeter"=some #[.iface 322 (.pointer (some a))]:=by
 rw [MakeChecks.laidMetH_plain _ _ _ (by kernel_rfl)] at h
 obtain ⟨a,s,hv,_⟩:=laid_sentinel h gv gt Tryz.underlying184 row Tryz.underlying322 Tryz.underlying347 rfl rfl Tryz.underlying9 cellsE cellsS
 exact ⟨a,hv⟩
theorem laid_of {W:World} {a:Addr} (h:W.var? Tryz.prog "loop.example/g00562/impl.errNoMeter"=some #[.iface 322 (.pointer (some a))]):CatR.Laid W:=by
 have hg:W.cell? ⟨0,0,none⟩=some (.iface 322 (.pointer (some a))):=by simpa using World.var?_cell gv h 0
 refine ⟨?_,a,hg⟩
 rcases Nat.lt_or_ge 0 W.heap.size with h|h
 ·exact h
 ·have h0:W.heap[0]? = none:=Array.getElem?_eq_none h
  simp [World.cell?,h0] at hg
theorem var_below {W W':World} {cs:Array Value} (hL:CatR.Laid W) (h:W.var? Tryz.prog "loop.example/g00562/impl.errNoMeter"=some cs) (hb:Below W.heap.size W W'):W'.var? Tryz.prog "loop.example/g00562/impl.errNoMeter"=some cs:=by
 unfold World.var? at h ⊢
 rw [gv] at h ⊢
 simp only [Option.bind_some] at h ⊢
 rw [hb.block 0 hL.1]
 exact h
theorem door_met (os:Os) (args:Array Value):laidMetH Tryz.prog laid ((World.doorLaid Tryz.prog 400 os).forCall (fun _ _=>0) ⟨#[],args,[]⟩).memory :=
 laidMetH_of_parts3 (fuel:=8) (laidMet_of_run' 8 (by kernel_rfl) (by kernel_rfl)) (by kernel_rfl) (by kernel_rfl)
end Snm
namespace Snt
theorem laidOut:laidOutB Tryz.prog=true:=by kernel_rfl
theorem own:ownKnob Tryz.prog.godebug=none:=by kernel_rfl
theorem gv:Tryz.prog.globalNamed "loop.example/g00562/impl.errRunsOver"=some 3:=by kernel_rfl
theorem gt:(Tryz.prog.globals[3]?).map (·.type)=some 184:=by kernel_rfl
theorem star : "*" ++ "errors.errorString" = "*errors.errorString":=by decide
theorem row (u:TypeId) (h:Tryz.prog.typeName? 3 u=some "*errors.errorString"):u=322 :=
 typeName_ptr_named (nm:= "errors.errorString") (by rw [star];kernel_rfl) (by kernel_rfl) (by decide) u (by rw [star];exact h)
theorem cellsE:Tryz.prog.cellsOf 347=1:=by kernel_rfl
theorem cellsS:Tryz.prog.cellsOf 9=1:=by kernel_rfl
def laid {H:Type}:List (String × DataW H):=[("loop.example/g00562/impl.errRunsOver",Rows.laid_loop_example_g00562_impl_errRunsOver)]
theorem of_laid {W:World} (h:laidMetH Tryz.prog laid W):∃a:Addr,W.var? Tryz.prog "loop.example/g00562/impl.errRunsOver"=some #[.iface 322 (.pointer (some a))]:=by
 rw [MakeChecks.laidMetH_plain _ _ _ (by kernel_rfl)] at h
 obtain ⟨a,s,hv,_⟩:=laid_sentinel h gv gt Tryz.underlying184 row Tryz.underlying322 Tryz.underlying347 rfl rfl Tryz.underlying9 cellsE cellsS
 exact ⟨a,hv⟩
theorem laid_of {W:World} {x:Value} {u:TypeId} (h:W.var? Tryz.prog "loop.example/g00562/impl.errRunsOver"=some #[.iface u x]):FixR.Laid W:=by
 have hg:W.cell? ⟨3,0,none⟩=some (.iface u x):=by simpa using World.var?_cell gv h 0
 refine ⟨?_,u,x,hg⟩
 rcases Nat.lt_or_ge 3 W.heap.size with h|h
 ·exact h
 ·have h0:W.heap[3]? = none:=Array.getElem?_eq_none h
  simp [World.cell?,h0] at hg
theorem var_below {W W':World} {cs:Array Value} (hL:FixR.Laid W) (h:W.var? Tryz.prog "loop.example/g00562/impl.errRunsOver"=some cs) (hb:Below W.heap.size W W'):W'.var? Tryz.prog "loop.example/g00562/impl.errRunsOver"=some cs:=by
 unfold World.var? at h ⊢
 rw [gv] at h ⊢
 simp only [Option.bind_some] at h ⊢
 rw [hb.block 3 hL.1]
 exact h
theorem door_met (os:Os) (args:Array Value):laidMetH Tryz.prog laid ((World.doorLaid Tryz.prog 400 os).forCall (fun _ _=>0) ⟨#[],args,[]⟩).memory :=
 laidMetH_of_parts3 (fuel:=8) (laidMet_of_run' 8 (by kernel_rfl) (by kernel_rfl)) (by kernel_rfl) (by kernel_rfl)
end Snt
namespace LayB
theorem own:ownKnob Tryz.prog.godebug=none:=by kernel_rfl
theorem laidOut:laidOutB Tryz.prog=true:=by kernel_rfl
def Ok (w:World):Prop:=CatR.Laid w∧DateR.Laid w∧FixR.Laid w
theorem Ok.below {w w':World} (h:Ok w) (hb:Below w.heap.size w w'):Ok w':=⟨h.1.below hb,h.2.1.below hb,h.2.2.below hb⟩
def laid {H:Type}:List (String × DataW H):=[("loop.example/g00562/impl.errRunsOver",Rows.laid_loop_example_g00562_impl_errRunsOver),("loop.example/g00562/impl.monthLengths",Rows.laid_loop_example_g00562_impl_monthLengths),("loop.example/g00562/impl.errNoMeter",Rows.laid_loop_example_g00562_impl_errNoMeter)]
theorem part1:(laid (H:=Unit)).filter (fun x=>x.1 == "loop.example/g00562/impl.monthLengths")=Lay.laid:=by rfl
theorem part2:(laid (H:=Unit)).filter (fun x=>x.1 == "loop.example/g00562/impl.errNoMeter")=Snm.laid:=by rfl
theorem part3:(laid (H:=Unit)).filter (fun x=>x.1 == "loop.example/g00562/impl.errRunsOver")=Snt.laid:=by rfl
theorem of_laid {W:World} (h:laidMetH Tryz.prog laid W):Ok W:=by
 have h1:=h.filter (fun x=>x.1 == "loop.example/g00562/impl.monthLengths")
 have h2:=h.filter (fun x=>x.1 == "loop.example/g00562/impl.errNoMeter")
 have h3:=h.filter (fun x=>x.1 == "loop.example/g00562/impl.errRunsOver")
 rw [part1] at h1
 rw [part2] at h2
 rw [part3] at h3
 obtain ⟨a,hv⟩:=Snm.of_laid h2
 obtain ⟨b,hu⟩:=Snt.of_laid h3
 exact ⟨Snm.laid_of hv,Lay.of_laid h1,Snt.laid_of hu⟩
theorem door_met (os:Os) (args:Array Value):laidMetH Tryz.prog laid ((World.doorLaid Tryz.prog 400 os).forCall (fun _ _=>0) ⟨#[],args,[]⟩).memory :=
 laidMetH_of_parts3 (fuel:=8) (laidMet_of_run' 8 (by kernel_rfl) (by kernel_rfl)) (by kernel_rfl) (by kernel_rfl)
section
variable {H:Type} {enc:TypeId × Value→H} {P:Program} {w:World} {spare:Nat→Bool}
theorem trodVars_three {n0 n1 n2:String} {gs:List (DataW H)} {ps:List MemPlace} (h:DataW.TrodVars enc P w spare [n0,n1,n2] gs ps):∃d0 d1 d2,gs=[d0,d1,d2]:=by
 cases gs with
 | nil=>simp [DataW.TrodVars] at h
 | cons d ds =>
  obtain ⟨g0,t0,cs0,f0,p0,q0,h1,h2,h3,h4,hs,e⟩:=h
  obtain ⟨_,_,_,_,d0,_,_,_,_,_,d1,_,rfl,_⟩:=Go.trodVars_two hs
  exact ⟨d,_,_,rfl⟩
end
end LayB
end Go.Proofs.YtmalfhhkjdkadaaGreatDoor
