/-
  Windows of one's own are marked, however far: nothing beside their own blocks is written. The conditions: sizes of at most 1048576.
-/
import Derived.Test.YtnceeaccbcfopaaGreatDoorT107
namespace Go.Proofs.YtnceeaccbcfopaaGreatDoor
open Go.ChangeShapes Go.WideShapes Go.ChangeAt Go.RowKit
set_option linter.unusedVariables false
namespace EngR
open CatR ChG
open RowG (grown_set)
open EvtR (Pt cell_far)
def KP (w w':World):Prop:=∀p n,Pt p n w→Pt p n w'
theorem KP.refl (w:World):KP w w:=fun _ _ h=>h
theorem KP.below {w w1 w2:World} (h:KP w w1) (hb:Below w1.heap.size w1 w2):KP w w2:=fun p n q=>(h p n q).below hb
theorem KP.put {w w1:World} (h:KP w w1) (g o:Nat) (v:Value):KP w (w1.setCell ⟨g,o,none⟩ v):=fun p n q=>WinR.ptA (h p n q)
theorem KP.trans {w w1 w2:World} (h:KP w w1) (h2:KP w1 w2):KP w w2:=fun p n q=>h2 p n (h p n q)
set_option maxRecDepth 100000 in
set_option maxHeartbeats 4000000 in
theorem zStr (g:Nat) (ao:Option Addr) (n cap K0:Nat) (w:World) (hn:n≤1048576) (h1:1≤K0) (hK:K0≤800000000000000000) (hao:n=0∨(ao=some ⟨g,0,none⟩∧Pt g (n*1) w)) :
 Calls Tryz.prog 90 #[.slice ao n cap,.int .i64 K0] w fun e w'=>e=.returned (.int .i64 (K0+n:Nat))∧Chg (fun b=>b=g∧0<n) w w'∧KP w w':=by
 have HAO:=H_ hao
 have HT:Hid (∀(z:Int) (K:Nat),z=K→1≤K→K≤900000000000000000→∀w,Calls Tryz.prog 89 #[.int .i64 z] w fun e w'=>(∃T,e=.returned (.string T))∧Below w.heap.size w w'):=H_ (fun z K e h0 h w=>by subst e;exact mark_some K h0 (by omega) w)
 clear hao
 go_enter Tryz.func90,Tryz.ntmps90
 go_wp2_with fail
 go_loopw [5,1] (fun x z wr=>∃i:Nat,x=.int .i64 (i:Int)∧z=.int .i64 ((K0:Int)+(i:Int))∧i≤n∧Hid (Chg (fun b=>b=g∧0<n) w wr)∧Hid (KP w wr)) (fun x _ _=>n-(intOf x).toNat)
 case atStart=>exact ⟨0,rfl,by simp,by omega,H_ (Chg.refl _ _),H_ (KP.refl _)⟩
 case round =>
  obtain ⟨i,rfl,rfl,hi,HG,HA⟩:=hrel
  by_cases hin:i=n
  ·subst hin
   go_wp2_with fail
   go_ret
   exact ⟨by go_num,HG.out,HA.out⟩
  ·have h1:(i:Int)<(n:Int):=by omega
   have h0:0<n:=by omega
   obtain rfl:ao=some ⟨g,0,none⟩:=by
    rcases HAO.out with q|q
    ·omega
    ·exact q.1
   have HP:Hid (Pt g (n*1) wr):=H_ (HA.out _ _ (by
    rcases HAO.out with q|q
    ·omega
    ·exact q.2))
   go_wp2_with fail
   refine (HT.out _ (K0+i) (by push_cast;omega) (by omega) (by omega) _).mono ?_
   rintro e w1 ⟨⟨T,rfl⟩,hb⟩
   replace HP:=H_ (HP.out.below hb)
   replace HG:=H_ (HG.out.below hb)
   replace HA:=H_ (HA.out.below hb)
   obtain ⟨v0,c0⟩:=HP.out.has (i) (by omega)
   have f0:=HP.out.free (i) (by omega)
   have HS:=H_ (HG.out.grown (grown_set _ g (i) (.string T)) ⟨rfl,h0⟩)
   have HK:=H_ (HA.out.put g (i) (.string T))
   clear HG HA HP hb
   go_wp2_with fail
   go_roundw
   case rel=>exact ⟨i+1,by go_num,by (congr 1)<;>omega,by omega,HS,HK⟩
   case measure=>simp [intOf];omega
set_option maxRecDepth 100000 in
set_option maxHeartbeats 4000000 in
theorem zHrs (g:Nat) (ao:Option Addr) (n cap K0:Nat) (w:World) (hn:n≤1048576) (h1:1≤K0) (hK:K0≤800000000000000000) (hao:n=0∨(ao=some ⟨g,0,none⟩∧Pt g (n*2) w)) :
 Calls Tryz.prog 91 #[.slice ao n cap,.int .i64 K0] w fun e w'=>e=.returned (.int .i64 (K0+2*n:Nat))∧Chg (fun b=>b=g∧0<n) w w'∧KP w w':=by
 have HAO:=H_ hao
 clear hao
 go_enter Tryz.func91,Tryz.ntmps91
 go_wp2_with fail
 go_loopw [5,1] (fun x z wr=>∃i:Nat,x=.int .i64 (i:Int)∧z=.int .i64 ((K0:Int)+2*(i:Int))∧i≤n∧Hid (Chg (fun b=>b=g∧0<n) w wr)∧Hid (KP w wr)) (fun x _ _=>n-(intOf x).toNat)
 case atStart=>exact ⟨0,rfl,by simp,by omega,H_ (Chg.refl _ _),H_ (KP.refl _)⟩
 case round =>
  obtain ⟨i,rfl,rfl,hi,HG,HA⟩:=hrel
  by_cases hin:i=n
  ·subst hin
   go_wp2_with fail
   go_ret
   exact ⟨by go_num,HG.out,HA.out⟩
  ·have h1:(i:Int)<(n:Int):=by omega
   have h0:0<n:=by omega
   obtain rfl:ao=some ⟨g,0,none⟩:=by
    rcases HAO.out with q|q
    ·omega
    ·exact q.1
   have HP:Hid (Pt g (n*2) wr):=H_ (HA.out _ _ (by
    rcases HAO.out with q|q
    ·omega
    ·exact q.2))
   obtain ⟨v0,c0⟩:=HP.out.has (i*2) (by omega)
   have f0:=HP.out.free (i*2) (by omega)
   obtain ⟨v1,c1⟩:=HP.out.has (i*2+1) (by omega)
   have f1:=HP.out.free (i*2+1) (by omega)
   have HS:=H_ ((HG.out.grown (grown_set _ g (i*2) (.int .i64 ((K0:Int)+2*(i:Int)))) ⟨rfl,h0⟩).grown (grown_set _ g (i*2+1) (.int .i64 ((K0:Int)+2*(i:Int)+1))) ⟨rfl,h0⟩)
   have HK:=H_ ((HA.out.put g (i*2) (.int .i64 ((K0:Int)+2*(i:Int)))).put g (i*2+1) (.int .i64 ((K0:Int)+2*(i:Int)+1)))
   clear HG HA HP
   go_wp2_with fail
   go_roundw
   case rel=>exact ⟨i+1,by go_num,by go_num,by omega,HS,HK⟩
   case measure=>simp [intOf];omega
def Zin (f k g t:Nat):Prop:=∀(a:Option Addr) (n c:Nat) (z:Int) (K:Nat) (W:World),z=(K:Nat)→n≤1048576→1≤K→K≤800000000000000000→WinR.Inn g t a n (n*k) W→Calls Tryz.prog f #[.slice a n c,.int .i64 z] W fun e w'=>e=.returned (.int .i64 (K+k*n:Nat))∧Chg (fun b=>g<b∧b<t) W w'∧KP W w'
theorem zin {f k:Nat} (hz:∀(g:Nat) (ao:Option Addr) (n cap K0:Nat) (w:World),n≤1048576→1≤K0→K0≤800000000000000000→(n=0∨(ao=some ⟨g,0,none⟩∧Pt g (n*k) w))→Calls Tryz.prog f #[.slice ao n cap,.int .i64 K0] w fun e w'=>e=.returned (.int .i64 (K0+k*n:Nat))∧Chg (fun b=>b=g∧0<n) w w'∧KP w w') (g t:Nat):Zin f k g t:=by
 intro a n c z K W e hn h1 hK hI
 subst e
 rcases hI with h0|⟨g',e1,e2,e3,e4⟩
 ·exact (hz 0 a n c K W hn h1 hK (.inl h0)).mono fun e w' h=>⟨h.1,h.2.1.wide (fun b q=>by omega),h.2.2⟩
 ·exact (hz g' a n c K W hn h1 hK (.inr ⟨e1,e4⟩)).mono fun e w' h=>⟨h.1,h.2.1.wide (fun b q=>by omega),h.2.2⟩
theorem zputWX {g t n o:Nat} {ws:List WinR.Wd} {W:World} (h:WinR.WX g t n ws W) (ho:o % 8<6) (v:Value):WinR.WX g t n ws (W.setCell ⟨g,o,none⟩ v):=fun j hj=>by
 obtain ⟨ta,tc,ha,hc',c6,c7,n1,n2⟩:=h j hj
 exact ⟨ta,tc,ha,hc',(cell_far _ _ (by omega) v).trans c6,(cell_far _ _ (by omega) v).trans c7,n1.put,n2.put⟩
theorem zchgWX {g t n:Nat} {ws:List WinR.Wd} {S:Nat→Prop} {W W':World} (h:WinR.WX g t n ws W) (hg:g<W.heap.size) (hc:Chg S W W') (hS:∀b,S b→b≠g) (hk:∀p m,g<p→p<t→Pt p m W→Pt p m W'):WinR.WX g t n ws W':=fun j hj=>by
 obtain ⟨ta,tc,ha,hc',c6,c7,n1,n2⟩:=h j hj
 have f:=fun o=>World.cell?_of_block (a:=⟨g,o,none⟩) (hc.block g hg (fun q=>hS g q rfl))
 exact ⟨ta,tc,ha,hc',(f _).trans c6,(f _).trans c7,n1.imp id (fun ⟨g',e1,e2,e3,e4⟩=>⟨g',e1,e2,e3,hk _ _ e2 e3 e4⟩),n2.imp id (fun ⟨g',e1,e2,e3,e4⟩=>⟨g',e1,e2,e3,hk _ _ e2 e3 e4⟩)⟩
set_option maxRecDepth 100000 in
set_option maxHeartbeats 8000000 in
theorem zWns (g t cap K0 n:Nat) (ws:List WinR.Wd) (w:World) (hn:n≤1048576) (hln:∀j,j<n→(ws.getD j WinR.Wd.zero).ts.length≤1048576∧(ws.getD j WinR.Wd.zero).hs.length≤1048576) (h1:1≤K0) (hK:K0≤80000000000000000) (ht:g<t) (hP:Pt g (n*8) w) (hX:WinR.WX g t n ws w) :
 Calls Tryz.prog 41 #[.slice (some ⟨g,0,none⟩) n cap,.int .i64 K0] w fun e w'=>(∃K:Nat,e=.returned (.int .i64 K)∧1≤K∧K≤K0+4000000*n)∧Chg (fun b=>g≤b∧b<t) w w'∧KP w w':=by
 have HLN:=H_ hln
 have HX0:=H_ hX
 have HP0:=H_ hP
 have HT:Hid (∀(z:Int) (K:Nat),z=K→1≤K→K≤900000000000000000→∀w,Calls Tryz.prog 89 #[.int .i64 z] w fun e w'=>(∃T,e=.returned (.string T))∧Below w.heap.size w w'):=H_ (fun z K e h0 h w=>by subst e;exact mark_some K h0 (by omega) w)
 have HZ0:Hid (Zin 90 1 g t):=H_ (zin (fun g ao n cap K0 w a b c d=>(zStr g ao n cap K0 w a b c d).mono fun e w' h=>⟨by rw [Nat.one_mul];exact h.1,h.2⟩) g t)
 have HZ1:Hid (Zin 91 2 g t):=H_ (zin zHrs g t)
 clear hln hX hP
 go_enter Tryz.func41,Tryz.ntmps41
 go_wp2_with fail
 go_loopw [5,1] (fun x z wr=>∃(i K:Nat),x=.int .i64 (i:Int)∧z=.int .i64 (K:Int)∧i≤n∧1≤K∧K≤K0+4000000*i∧Hid (WinR.WX g t n ws wr)∧Hid (Chg (fun b=>g≤b∧b<t) w wr)∧Hid (KP w wr)) (fun x _ _=>n-(intOf x).toNat)
 case atStart=>exact ⟨0,K0,rfl,rfl,by omega,by omega,by omega,HX0,H_ (Chg.refl _ _),H_ (KP.refl _)⟩
 case round =>
  obtain ⟨i,K,rfl,rfl,hi,k0,k1,HX,HG,HA⟩:=hrel
  by_cases hin:i=n
  ·subst hin
   go_wp2_with fail
   go_ret
   exact ⟨⟨K,rfl,by omega,by omega⟩,HG.out,HA.out⟩
  ·have h1:(i:Int)<(n:Int):=by omega
   have HP:Hid (Pt g (n*8) wr):=H_ (HA.out _ _ HP0.out)
   have hgl:=HP.out.lt
   go_wp2_with fail
   refine (HT.out _ K (by push_cast;omega) (by omega) (by omega) _).mono ?_
   rintro e w1 ⟨⟨T0,rfl⟩,hb⟩
   replace HP:=H_ (HP.out.below hb)
   replace HX:=H_ (zchgWX HX.out (by assumption) (Chg.of_below (S:=fun _=>False) hb) (fun _ q=>q.elim) (fun _ _ _ _ q=>q.below hb))
   replace HG:=H_ (HG.out.below hb)
   replace HA:=H_ (HA.out.below hb)
   clear hb hgl
   have hgl:=HP.out.lt
   obtain ⟨v0,c0⟩:=HP.out.has (i*8) (by omega)
   have f0:=HP.out.free (i*8) (by omega)
   obtain ⟨W0,hW0⟩:∃z,z=(w1.setCell ⟨g,i*8,none⟩ (.string T0)):=⟨_,rfl⟩
   have HX2:Hid (WinR.WX g t n ws W0):=H_ (by rw [hW0];exact (zputWX HX.out (by omega) _))
   have HP2:Hid (Pt g (n*8) W0):=H_ (by rw [hW0];exact (HP.out.set _ _))
   have HG2:Hid (Chg (fun b=>g≤b∧b<t) w W0):=H_ (by rw [hW0];exact (HG.out.grown (grown_set _ g (i*8) _) ⟨Nat.le_refl _,ht⟩))
   have HA2:Hid (KP w W0):=H_ (by rw [hW0];exact (HA.out.put g (i*8) _))
   have HW:=H_ hW0
   clear hW0 HX HP HG HA
   clear hgl
   have hgl:=HP2.out.lt
   go_wp2_with fail
   rw [←HW.out]
   clear HW c0 f0
   have HX:=HX2
   have HP:=HP2
   have HG:=HG2
   have HA:=HA2
   clear HX2 HP2 HG2 HA2
   refine (HT.out _ (K+1) (by push_cast;omega) (by omega) (by omega) _).mono ?_
   rintro e w2 ⟨⟨T1,rfl⟩,hb⟩
   replace HP:=H_ (HP.out.below hb)
   replace HX:=H_ (zchgWX HX.out (by assumption) (Chg.of_below (S:=fun _=>False) hb) (fun _ q=>q.elim) (fun _ _ _ _ q=>q.below hb))
   replace HG:=H_ (HG.out.below hb)
   replace HA:=H_ (HA.out.below hb)
   clear hb hgl
   have hgl:=HP.out.lt
   obtain ⟨v1,c1⟩:=HP.out.has (i*8+1) (by omega)
   have f1:=HP.out.free (i*8+1) (by omega)
   obtain ⟨v2,c2⟩:=HP.out.has (i*8+2) (by omega)
   have f2:=HP.out.free (i*8+2) (by omega)
   obtain ⟨v3,c3⟩:=HP.out.has (i*8+3) (by omega)
   have f3:=HP.out.free (i*8+3) (by omega)
   obtain ⟨v4,c4⟩:=HP.out.has (i*8+4) (by omega)
   have f4:=HP.out.free (i*8+4) (by omega)
   obtain ⟨v5,c5⟩:=HP.out.has (i*8+5) (by omega)
   have f5:=HP.out.free (i*8+5) (by omega)
   obtain ⟨ta,tc,ha,hc',hIN⟩:=HX.out i (by omega)
   obtain ⟨c6,c7,n1,n2⟩:=hIN
   have HN1:=H_ n1
   have HN2:=H_ n2
   clear n1 n2
   obtain ⟨W1,hW1⟩:∃z,z=(((((w2.setCell ⟨g,i*8+1,none⟩ (.string T1)).setCell ⟨g,i*8+2,none⟩ (.int .i64 ((K:Int)+1+1))).setCell ⟨g,i*8+3,none⟩ (.int .i64 ((K:Int)+1+1+1))).setCell ⟨g,i*8+4,none⟩ (.int .i64 ((K:Int)+1+1+1+1))).setCell ⟨g,i*8+5,none⟩ (.int .i64 ((K:Int)+1+1+1+1+1))):=⟨_,rfl⟩
   have HX2:Hid (WinR.WX g t n ws W1):=H_ (by rw [hW1];exact (zputWX (zputWX (zputWX (zputWX (zputWX HX.out (by omega) _) (by omega) _) (by omega) _) (by omega) _) (by omega) _))
   have HP2:Hid (Pt g (n*8) W1):=H_ (by rw [hW1];exact (((((HP.out.set _ _).set _ _).set _ _).set _ _).set _ _))
   have HG2:Hid (Chg (fun b=>g≤b∧b<t) w W1):=H_ (by rw [hW1];exact (((((HG.out.grown (grown_set _ g (i*8+1) _) ⟨Nat.le_refl _,ht⟩).grown (grown_set _ g (i*8+2) _) ⟨Nat.le_refl _,ht⟩).grown (grown_set _ g (i*8+3) _) ⟨Nat.le_refl _,ht⟩).grown (grown_set _ g (i*8+4) _) ⟨Nat.le_refl _,ht⟩).grown (grown_set _ g (i*8+5) _) ⟨Nat.le_refl _,ht⟩))
   have HA2:Hid (KP w W1):=H_ (by rw [hW1];exact (((((HA.out.put g (i*8+1) _).put g (i*8+2) _).put g (i*8+3) _).put g (i*8+4) _).put g (i*8+5) _))
   have HM0:Hid (WinR.Inn g t ta ((ws.getD i WinR.Wd.zero).ts.length) (((ws.getD i WinR.Wd.zero).ts.length)*1) W1):=H_ (by rw [hW1];exact (WinR.Inn.put (g:=g) (WinR.Inn.put (g:=g) (WinR.Inn.put (g:=g) (WinR.Inn.put (g:=g) (WinR.Inn.put (g:=g) HN1.out))))))
   have hl:=HLN.out i (by omega)
   have hl0:=hl.1
   have hl1:=hl.2
   clear hl
   generalize hq0:(ws.getD i WinR.Wd.zero).ts.length=l0 at *
   have HQ0:=H_ hq0
   clear hq0
   generalize hq1:(ws.getD i WinR.Wd.zero).hs.length=l1 at *
   have HQ1:=H_ hq1
   clear hq1
   have HW:=H_ hW1
   clear hW1 HX HP HG HA
   clear hgl
   have hgl:=HP2.out.lt
   clear HN1 HN2
   go_wp2_with fail
   rw [←HW.out]
   clear HW c1 f1 c2 f2 c3 f3 c4 f4 c5 f5
   have HX:=HX2
   have HP:=HP2
   have HG:=HG2
   have HA:=HA2
   clear HX2 HP2 HG2 HA2
   refine (HZ0.out _ _ _ _ (K+6) _ (by push_cast;omega) hl0 (by omega) (by omega) HM0.out).mono ?_
   rintro e u0 ⟨rfl,hc,hk⟩
   replace HX:=H_ (zchgWX HX.out hgl hc (fun b q=>by omega) (fun p m _ _ h=>hk p m h))
   replace HP:=H_ (hk _ _ HP.out)
   replace HG:=H_ (HG.out.trans (hc.wide (fun b q=>by omega)))
   replace HA:=H_ (HA.out.trans hk)
   clear hc hk hgl
   have hgl:=HP.out.lt
   obtain ⟨ta2,tc2,ha2,hc2,_,d7,_,m2⟩:=HX.out i (by omega)
   rw [HQ1.out] at d7 m2
   have HM1:=H_ m2
   clear m2
   go_wp2_with fail
   refine (HZ1.out _ _ _ _ ((K+6)+1*l0) _ (by push_cast;omega) hl1 (by omega) (by omega) HM1.out).mono ?_
   rintro e u1 ⟨rfl,hc,hk⟩
   replace HX:=H_ (zchgWX HX.out hgl hc (fun b q=>by omega) (fun p m _ _ h=>hk p m h))
   replace HP:=H_ (hk _ _ HP.out)
   replace HG:=H_ (HG.out.trans (hc.wide (fun b q=>by omega)))
   replace HA:=H_ (HA.out.trans hk)
   clear hc hk
   go_wp2_with fail
   go_roundw
   case rel=>exact ⟨i+1,(((K+6)+1*l0)+2*l1),by go_num,by go_num,by omega,by omega,by omega,HX,HG,HA⟩
   case measure=>simp [intOf];omega
end EngR
end Go.Proofs.YtnceeaccbcfopaaGreatDoor
