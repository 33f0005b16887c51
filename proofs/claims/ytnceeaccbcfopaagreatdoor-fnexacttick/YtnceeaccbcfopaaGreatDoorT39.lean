/-
  An engine of one's own is marked, however far: nothing beside its own blocks is written.
  An engine that came in.
  The conditions stand in what each theorem says.
-/
import Derived.Test.YtnceeaccbcfopaaGreatDoorT38
set_option maxRecDepth 100000
set_option maxHeartbeats 16000000
namespace Go.Proofs.YtnceeaccbcfopaaGreatDoor
open Go.ChangeShapes Go.WideShapes Go.ChangeAt Go.RowKit
set_option linter.unusedVariables false
namespace EngR
open CatR ChG
open RowG (grown_set)
open EvtR (Pt cell_far)
theorem zLis (g:Nat) (ao:Option Addr) (n cap K0:Nat) (w:World) (hn:n≤1048576) (h1:1≤K0) (hK:K0≤800000000000000000) (hao:n=0∨(ao=some ⟨g,0,none⟩∧Pt g (n*2) w)) :
 Calls Tryz.prog 92 #[.slice ao n cap,.int .i64 K0] w fun e w'=>e=.returned (.int .i64 (K0+2*n:Nat))∧Chg (fun b=>b=g∧0<n) w w'∧KP w w':=by
 have HAO:=H_ hao
 have HT:Hid (∀(z:Int) (K:Nat),z=K→1≤K→K≤900000000000000000→∀w,Calls Tryz.prog 89 #[.int .i64 z] w fun e w'=>(∃T,e=.returned (.string T))∧Below w.heap.size w w'):=H_ (fun z K e h0 h w=>by subst e;exact mark_some K h0 (by omega) w)
 clear hao
 go_enter Tryz.func92,Tryz.ntmps92
 go_wp2_with fail
 go_loopw [5,1] (fun x z wr=>∃i:Nat,x=.int .i64 (i:Int)∧z=.int .i64 ((K0:Int)+2*(i:Int))∧i≤n∧Hid (Chg (fun b=>b=g∧0<n) w wr)∧Hid (KP w wr)) (fun x _ _=>n-(intOf x).toNat)
 case atStart=>exact ⟨0,rfl,by simp,by omega,H_ (Chg.refl _ _),H_ (KP.refl _)⟩
 case round =>
  obtain ⟨i,rfl,rfl,hi,HG,HA⟩:=hrel
  by_cases hin:i=n
  ·subst hin
   go_wp2_with fail
   go_ret
   exact ⟨by go_num,HG.out,HA.out⟩
  ·have h1:(i:Int)<(n:Int):=by omega
   have h0:0<n:=by omega
   obtain rfl:ao=some ⟨g,0,none⟩:=by
    rcases HAO.out with q|q
    ·omega
    ·exact q.1
   have HP:Hid (Pt g (n*2) wr):=H_ (HA.out _ _ (by
    rcases HAO.out with q|q
    ·omega
    ·exact q.2))
   go_wp2_with fail
   refine (HT.out _ (K0+2*i) (by push_cast;omega) (by omega) (by omega) _).mono ?_
   rintro e w1 ⟨⟨T,rfl⟩,hb⟩
   replace HP:=H_ (HP.out.below hb)
   replace HG:=H_ (HG.out.below hb)
   replace HA:=H_ (HA.out.below hb)
   obtain ⟨v0,c0⟩:=HP.out.has (i*2) (by omega)
   have f0:=HP.out.free (i*2) (by omega)
   obtain ⟨v1,c1⟩:=HP.out.has (i*2+1) (by omega)
   have f1:=HP.out.free (i*2+1) (by omega)
   have HS:=H_ ((HG.out.grown (grown_set _ g (i*2) (.string T)) ⟨rfl,h0⟩).grown (grown_set _ g (i*2+1) (.int .i64 ((K0:Int)+2*(i:Int)+1))) ⟨rfl,h0⟩)
   have HK:=H_ ((HA.out.put g (i*2) (.string T)).put g (i*2+1) (.int .i64 ((K0:Int)+2*(i:Int)+1)))
   clear HG HA HP hb
   go_wp2_with fail
   go_roundw
   case rel=>exact ⟨i+1,by go_num,by go_num,by omega,HS,HK⟩
   case measure=>simp [intOf];omega
theorem zSrs (g:Nat) (ao:Option Addr) (n cap K0:Nat) (w:World) (hn:n≤1048576) (h1:1≤K0) (hK:K0≤800000000000000000) (hao:n=0∨(ao=some ⟨g,0,none⟩∧Pt g (n*2) w)) :
 Calls Tryz.prog 39 #[.slice ao n cap,.int .i64 K0] w fun e w'=>e=.returned (.int .i64 (K0+2*n:Nat))∧Chg (fun b=>b=g∧0<n) w w'∧KP w w':=by
 have HAO:=H_ hao
 have HT:Hid (∀(z:Int) (K:Nat),z=K→1≤K→K≤900000000000000000→∀w,Calls Tryz.prog 89 #[.int .i64 z] w fun e w'=>(∃T,e=.returned (.string T))∧Below w.heap.size w w'):=H_ (fun z K e h0 h w=>by subst e;exact mark_some K h0 (by omega) w)
 clear hao
 go_enter Tryz.func39,Tryz.ntmps39
 go_wp2_with fail
 go_loopw [5,1] (fun x z wr=>∃i:Nat,x=.int .i64 (i:Int)∧z=.int .i64 ((K0:Int)+2*(i:Int))∧i≤n∧Hid (Chg (fun b=>b=g∧0<n) w wr)∧Hid (KP w wr)) (fun x _ _=>n-(intOf x).toNat)
 case atStart=>exact ⟨0,rfl,by simp,by omega,H_ (Chg.refl _ _),H_ (KP.refl _)⟩
 case round =>
  obtain ⟨i,rfl,rfl,hi,HG,HA⟩:=hrel
  by_cases hin:i=n
  ·subst hin
   go_wp2_with fail
   go_ret
   exact ⟨by go_num,HG.out,HA.out⟩
  ·have h1:(i:Int)<(n:Int):=by omega
   have h0:0<n:=by omega
   obtain rfl:ao=some ⟨g,0,none⟩:=by
    rcases HAO.out with q|q
    ·omega
    ·exact q.1
   have HP:Hid (Pt g (n*2) wr):=H_ (HA.out _ _ (by
    rcases HAO.out with q|q
    ·omega
    ·exact q.2))
   go_wp2_with fail
   refine (HT.out _ (K0+2*i) (by push_cast;omega) (by omega) (by omega) _).mono ?_
   rintro e w1 ⟨⟨T,rfl⟩,hb⟩
   replace HP:=H_ (HP.out.below hb)
   replace HG:=H_ (HG.out.below hb)
   replace HA:=H_ (HA.out.below hb)
   obtain ⟨v0,c0⟩:=HP.out.has (i*2) (by omega)
   have f0:=HP.out.free (i*2) (by omega)
   obtain ⟨v1,c1⟩:=HP.out.has (i*2+1) (by omega)
   have f1:=HP.out.free (i*2+1) (by omega)
   have HS:=H_ ((HG.out.grown (grown_set _ g (i*2) (.string T)) ⟨rfl,h0⟩).grown (grown_set _ g (i*2+1) (.int .i64 ((K0:Int)+2*(i:Int)+1))) ⟨rfl,h0⟩)
   have HK:=H_ ((HA.out.put g (i*2) (.string T)).put g (i*2+1) (.int .i64 ((K0:Int)+2*(i:Int)+1)))
   clear HG HA HP hb
   go_wp2_with fail
   go_roundw
   case rel=>exact ⟨i+1,by go_num,by go_num,by omega,HS,HK⟩
   case measure=>simp [intOf];omega
theorem zEns (g:Nat) (ao:Option Addr) (n cap K0:Nat) (w:World) (hn:n≤1048576) (h1:1≤K0) (hK:K0≤800000000000000000) (hao:n=0∨(ao=some ⟨g,0,none⟩∧Pt g (n*3) w)) :
 Calls Tryz.prog 40 #[.slice ao n cap,.int .i64 K0] w fun e w'=>e=.returned (.int .i64 (K0+3*n:Nat))∧Chg (fun b=>b=g∧0<n) w w'∧KP w w':=by
 have HAO:=H_ hao
 have HT:Hid (∀(z:Int) (K:Nat),z=K→1≤K→K≤900000000000000000→∀w,Calls Tryz.prog 89 #[.int .i64 z] w fun e w'=>(∃T,e=.returned (.string T))∧Below w.heap.size w w'):=H_ (fun z K e h0 h w=>by subst e;exact mark_some K h0 (by omega) w)
 clear hao
 go_enter Tryz.func40,Tryz.ntmps40
 go_wp2_with fail
 go_loopw [5,1] (fun x z wr=>∃i:Nat,x=.int .i64 (i:Int)∧z=.int .i64 ((K0:Int)+3*(i:Int))∧i≤n∧Hid (Chg (fun b=>b=g∧0<n) w wr)∧Hid (KP w wr)) (fun x _ _=>n-(intOf x).toNat)
 case atStart=>exact ⟨0,rfl,by simp,by omega,H_ (Chg.refl _ _),H_ (KP.refl _)⟩
 case round =>
  obtain ⟨i,rfl,rfl,hi,HG,HA⟩:=hrel
  by_cases hin:i=n
  ·subst hin
   go_wp2_with fail
   go_ret
   exact ⟨by go_num,HG.out,HA.out⟩
  ·have h1:(i:Int)<(n:Int):=by omega
   have h0:0<n:=by omega
   obtain rfl:ao=some ⟨g,0,none⟩:=by
    rcases HAO.out with q|q
    ·omega
    ·exact q.1
   have HP:Hid (Pt g (n*3) wr):=H_ (HA.out _ _ (by
    rcases HAO.out with q|q
    ·omega
    ·exact q.2))
   go_wp2_with fail
   refine (HT.out _ (K0+3*i) (by push_cast;omega) (by omega) (by omega) _).mono ?_
   rintro e w1 ⟨⟨T,rfl⟩,hb⟩
   replace HP:=H_ (HP.out.below hb)
   replace HG:=H_ (HG.out.below hb)
   replace HA:=H_ (HA.out.below hb)
   obtain ⟨v0,c0⟩:=HP.out.has (i*3) (by omega)
   have f0:=HP.out.free (i*3) (by omega)
   obtain ⟨v1,c1⟩:=HP.out.has (i*3+1) (by omega)
   have f1:=HP.out.free (i*3+1) (by omega)
   obtain ⟨v2,c2⟩:=HP.out.has (i*3+2) (by omega)
   have f2:=HP.out.free (i*3+2) (by omega)
   have HS:=H_ (((HG.out.grown (grown_set _ g (i*3) (.string T)) ⟨rfl,h0⟩).grown (grown_set _ g (i*3+1) (.int .i64 ((K0:Int)+3*(i:Int)+1))) ⟨rfl,h0⟩).grown (grown_set _ g (i*3+2) (.int .i64 ((K0:Int)+3*(i:Int)+1+1))) ⟨rfl,h0⟩)
   have HK:=H_ (((HA.out.put g (i*3) (.string T)).put g (i*3+1) (.int .i64 ((K0:Int)+3*(i:Int)+1))).put g (i*3+2) (.int .i64 ((K0:Int)+3*(i:Int)+1+1)))
   clear HG HA HP hb
   go_wp2_with fail
   go_roundw
   case rel=>exact ⟨i+1,by go_num,by go_num,by omega,HS,HK⟩
   case measure=>simp [intOf];omega
theorem zputDY {g t n o:Nat} {ds:List DocR.D} {W:World} (h:LedR.DY g t n ds W) (ho:o % 4<3) (v:Value):LedR.DY g t n ds (W.setCell ⟨g,o,none⟩ v):=fun j hj=>by
 obtain ⟨la,lc,c3,n1⟩:=h j hj
 exact ⟨la,lc,(cell_far _ _ (by omega) v).trans c3,WinR.Inn.put (g:=g) n1⟩
theorem zchgDY {g t n:Nat} {ds:List DocR.D} {S:Nat→Prop} {W W':World} (h:LedR.DY g t n ds W) (hg:g<W.heap.size) (hc:Chg S W W') (hS:∀b,S b→b≠g) (hk:∀p m,g<p→p<t→Pt p m W→Pt p m W'):LedR.DY g t n ds W':=fun j hj=>by
 obtain ⟨la,lc,c3,n1⟩:=h j hj
 have f:=fun o=>World.cell?_of_block (a:=⟨g,o,none⟩) (hc.block g hg (fun q=>hS g q rfl))
 exact ⟨la,lc,(f _).trans c3,n1.imp id (fun ⟨g',e1,e2,e3,e4⟩=>⟨g',e1,e2,e3,hk _ _ e2 e3 e4⟩)⟩
theorem zDcs (g t cap K0 n:Nat) (ds:List DocR.D) (w:World) (hn:n≤1048576) (hln:∀j,j<n→(ds.getD j LedR.D.zero).ls.length≤1048576) (h1:1≤K0) (hK:K0≤80000000000000000) (ht:g<t) (hP:Pt g (n*4) w) (hX:LedR.DY g t n ds w) :
 Calls Tryz.prog 42 #[.slice (some ⟨g,0,none⟩) n cap,.int .i64 K0] w fun e w'=>(∃K:Nat,e=.returned (.int .i64 K)∧1≤K∧K≤K0+4000000*n)∧Chg (fun b=>g≤b∧b<t) w w'∧KP w w':=by
 have HLN:=H_ hln
 have HX0:=H_ hX
 have HP0:=H_ hP
 have HT:Hid (∀(z:Int) (K:Nat),z=K→1≤K→K≤900000000000000000→∀w,Calls Tryz.prog 89 #[.int .i64 z] w fun e w'=>(∃T,e=.returned (.string T))∧Below w.heap.size w w'):=H_ (fun z K e h0 h w=>by subst e;exact mark_some K h0 (by omega) w)
 have HZ0:Hid (Zin 92 2 g t):=H_ (zin zLis g t)
 clear hln hX hP
 go_enter Tryz.func42,Tryz.ntmps42
 go_wp2_with fail
 go_loopw [5,1] (fun x z wr=>∃(i K:Nat),x=.int .i64 (i:Int)∧z=.int .i64 (K:Int)∧i≤n∧1≤K∧K≤K0+4000000*i∧Hid (LedR.DY g t n ds wr)∧Hid (Chg (fun b=>g≤b∧b<t) w wr)∧Hid (KP w wr)) (fun x _ _=>n-(intOf x).toNat)
 case atStart=>exact ⟨0,K0,rfl,rfl,by omega,by omega,by omega,HX0,H_ (Chg.refl _ _),H_ (KP.refl _)⟩
 case round =>
  obtain ⟨i,K,rfl,rfl,hi,k0,k1,HX,HG,HA⟩:=hrel
  by_cases hin:i=n
  ·subst hin
   go_wp2_with fail
   go_ret
   exact ⟨⟨K,rfl,by omega,by omega⟩,HG.out,HA.out⟩
  ·have h1:(i:Int)<(n:Int):=by omega
   have HP:Hid (Pt g (n*4) wr):=H_ (HA.out _ _ HP0.out)
   have hgl:=HP.out.lt
   go_wp2_with fail
   refine (HT.out _ K (by push_cast;omega) (by omega) (by omega) _).mono ?_
   rintro e w1 ⟨⟨T0,rfl⟩,hb⟩
   replace HP:=H_ (HP.out.below hb)
   replace HX:=H_ (zchgDY HX.out (by assumption) (Chg.of_below (S:=fun _=>False) hb) (fun _ q=>q.elim) (fun _ _ _ _ q=>q.below hb))
   replace HG:=H_ (HG.out.below hb)
   replace HA:=H_ (HA.out.below hb)
   clear hb hgl
   have hgl:=HP.out.lt
   obtain ⟨v0,c0⟩:=HP.out.has (i*4) (by omega)
   have f0:=HP.out.free (i*4) (by omega)
   obtain ⟨v1,c1⟩:=HP.out.has (i*4+1) (by omega)
   have f1:=HP.out.free (i*4+1) (by omega)
   obtain ⟨v2,c2⟩:=HP.out.has (i*4+2) (by omega)
   have f2:=HP.out.free (i*4+2) (by omega)
   obtain ⟨la,lc,hIN⟩:=HX.out i (by omega)
   obtain ⟨c3,n1⟩:=hIN
   have HN1:=H_ n1
   clear n1
   obtain ⟨W0,hW0⟩:∃z,z=(((w1.setCell ⟨g,i*4,none⟩ (.string T0)).setCell ⟨g,i*4+1,none⟩ (.int .i64 ((K:Int)+1))).setCell ⟨g,i*4+2,none⟩ (.int .i64 ((K:Int)+1+1))):=⟨_,rfl⟩
   have HX2:Hid (LedR.DY g t n ds W0):=H_ (by rw [hW0];exact (zputDY (zputDY (zputDY HX.out (by omega) _) (by omega) _) (by omega) _))
   have HP2:Hid (Pt g (n*4) W0):=H_ (by rw [hW0];exact (((HP.out.set _ _).set _ _).set _ _))
   have HG2:Hid (Chg (fun b=>g≤b∧b<t) w W0):=H_ (by rw [hW0];exact (((HG.out.grown (grown_set _ g (i*4) _) ⟨Nat.le_refl _,ht⟩).grown (grown_set _ g (i*4+1) _) ⟨Nat.le_refl _,ht⟩).grown (grown_set _ g (i*4+2) _) ⟨Nat.le_refl _,ht⟩))
   have HA2:Hid (KP w W0):=H_ (by rw [hW0];exact (((HA.out.put g (i*4) _).put g (i*4+1) _).put g (i*4+2) _))
   have HM0:Hid (WinR.Inn g t la ((ds.getD i LedR.D.zero).ls.length) (((ds.getD i LedR.D.zero).ls.length)*2) W0):=H_ (by rw [hW0];exact (WinR.Inn.put (g:=g) (WinR.Inn.put (g:=g) (WinR.Inn.put (g:=g) HN1.out))))
   have hl:=HLN.out i (by omega)
   have hl0:=hl
   clear hl
   generalize hq0:(ds.getD i LedR.D.zero).ls.length=l0 at *
   have HQ0:=H_ hq0
   clear hq0
   have HW:=H_ hW0
   clear hW0 HX HP HG HA
   clear hgl
   have hgl:=HP2.out.lt
   clear HN1
   go_wp2_with fail
   rw [←HW.out]
   clear HW c0 f0 c1 f1 c2 f2
   have HX:=HX2
   have HP:=HP2
   have HG:=HG2
   have HA:=HA2
   clear HX2 HP2 HG2 HA2
   refine (HZ0.out _ _ _ _ (K+3) _ (by push_cast;omega) hl0 (by omega) (by omega) HM0.out).mono ?_
   rintro e u0 ⟨rfl,hc,hk⟩
   replace HX:=H_ (zchgDY HX.out hgl hc (fun b q=>by omega) (fun p m _ _ h=>hk p m h))
   replace HP:=H_ (hk _ _ HP.out)
   replace HG:=H_ (HG.out.trans (hc.wide (fun b q=>by omega)))
   replace HA:=H_ (HA.out.trans hk)
   clear hc hk
   go_wp2_with fail
   go_roundw
   case rel=>exact ⟨i+1,((K+3)+2*l0),by go_num,by go_num,by omega,by omega,by omega,HX,HG,HA⟩
   case measure=>simp [intOf];omega
theorem zeng_in (ma:Option Addr) (ml mc:Nat) (ca:Option Addr) (cl cc:Nat) (sa:Option Addr) (sl sc:Nat) (ea:Option Addr) (el ec:Nat) (ua:Option Addr) (ul uc:Nat) (da:Option Addr) (dl dc:Nat) (fr:Int) (base g0 g1 g2 g3 g4 t0 t1 t2 t3 t4:Nat) (w:World) (ho:base≤g0∧g0≤t0∧t0≤g1∧g1≤t1∧t1≤g2∧g2≤t2∧t2≤g3∧g3≤t3∧t3≤g4∧g4≤t4∧t4≤w.heap.size)
 (h0:∀(K:Nat) W,1≤K→K≤1→Chg (fun b=>base≤b∧b<g0) w W→Calls Tryz.prog 38 #[.agg #[.slice ma ml mc,.slice ca cl cc],.int .i64 (K:Nat)] W fun e w'=>(∃K':Nat,e=.returned (.int .i64 (K':Nat))∧1≤K'∧K'≤K+20000000000000)∧Chg (fun b=>g0≤b∧b<t0) W w')
 (h1:∀(K:Nat) W,1≤K→K≤20000000000001→Chg (fun b=>base≤b∧b<g1) w W→Calls Tryz.prog 39 #[.slice sa sl sc,.int .i64 (K:Nat)] W fun e w'=>(∃K':Nat,e=.returned (.int .i64 (K':Nat))∧1≤K'∧K'≤K+20000000000000)∧Chg (fun b=>g1≤b∧b<t1) W w')
 (h2:∀(K:Nat) W,1≤K→K≤40000000000001→Chg (fun b=>base≤b∧b<g2) w W→Calls Tryz.prog 40 #[.slice ea el ec,.int .i64 (K:Nat)] W fun e w'=>(∃K':Nat,e=.returned (.int .i64 (K':Nat))∧1≤K'∧K'≤K+20000000000000)∧Chg (fun b=>g2≤b∧b<t2) W w')
 (h3:∀(K:Nat) W,1≤K→K≤60000000000001→Chg (fun b=>base≤b∧b<g3) w W→Calls Tryz.prog 41 #[.slice ua ul uc,.int .i64 (K:Nat)] W fun e w'=>(∃K':Nat,e=.returned (.int .i64 (K':Nat))∧1≤K'∧K'≤K+20000000000000)∧Chg (fun b=>g3≤b∧b<t3) W w')
 (h4:∀(K:Nat) W,1≤K→K≤80000000000001→Chg (fun b=>base≤b∧b<g4) w W→Calls Tryz.prog 42 #[.slice da dl dc,.int .i64 (K:Nat)] W fun e w'=>(∃K':Nat,e=.returned (.int .i64 (K':Nat))∧1≤K'∧K'≤K+20000000000000)∧Chg (fun b=>g4≤b∧b<t4) W w') :
 Calls Tryz.prog 10 #[.agg #[.slice ma ml mc,.slice ca cl cc,.slice sa sl sc,.slice ea el ec,.slice ua ul uc,.slice da dl dc,.int .i64 fr],.int .i64 1] w fun e w'=>(∃K:Nat,e=.returned (.int .i64 K))∧Chg (fun b=>base≤b∧b<t4) w w':=by
 have H0:=H_ h0
 have H1:=H_ h1
 have H2:=H_ h2
 have H3:=H_ h3
 have H4:=H_ h4
 have HO:=H_ ho
 clear h0 h1 h2 h3 h4 ho
 obtain ⟨W0,hW0⟩:∃z,z=w.alloc (.cells #[.slice ma ml mc,.slice ca cl cc,.slice sa sl sc,.slice ea el ec,.slice ua ul uc,.slice da dl dc,.int .i64 fr] 42):=⟨_,rfl⟩
 have C:Hid (Chg (fun b=>base≤b∧b<g0) w W0):=H_ (by rw [hW0];exact Chg.of_below (al_ _ _))
 have X:Hid (Blk w.heap.size [.slice ma ml mc,.slice ca cl cc,.slice sa sl sc,.slice ea el ec,.slice ua ul uc,.slice da dl dc,.int .i64 fr] W0):=H_ (by rw [hW0];exact Blk.new w [.slice ma ml mc,.slice ca cl cc,.slice sa sl sc,.slice ea el ec,.slice ua ul uc,.slice da dl dc,.int .i64 fr] 42)
 have HW:=H_ hW0
 clear hW0
 go_enter Tryz.func10,Tryz.ntmps10
 go_wp2_with fail
 rw [←HW.out]
 clear HW
 refine (H0.out 1 _ (by omega) (by omega) C.out).mono ?_
 rintro e w1 ⟨⟨K1,rfl,k1,k1'⟩,hc⟩
 replace k1':K1≤20000000000001:=by omega
 replace X:=H_ (ChG.Chg.blk hc X.out (fun q=>by have:=HO.out;omega))
 replace C:=H_ ((C.out.wide (S':=fun b=>base≤b∧b<g1) (fun b q=>by have:=HO.out;omega)).trans (hc.wide (fun b q=>by have:=HO.out;omega)))
 clear hc
 have xl:=X.out.1
 have x0:=q_ X.out.2 0
 have x1:=q_ X.out.2 1
 have x2:=q_ X.out.2 2
 have x3:=q_ X.out.2 3
 have x4:=q_ X.out.2 4
 have x5:=q_ X.out.2 5
 have x6:=q_ X.out.2 6
 go_wp2_with fail
 refine (H1.out K1 _ k1 k1' C.out).mono ?_
 rintro e w2 ⟨⟨K2,rfl,k2,k2'⟩,hc⟩
 clear xl x0 x1 x2 x3 x4 x5 x6
 replace k2':K2≤40000000000001:=by omega
 replace X:=H_ (ChG.Chg.blk hc X.out (fun q=>by have:=HO.out;omega))
 replace C:=H_ ((C.out.wide (S':=fun b=>base≤b∧b<g2) (fun b q=>by have:=HO.out;omega)).trans (hc.wide (fun b q=>by have:=HO.out;omega)))
 clear hc
 have xl:=X.out.1
 have x0:=q_ X.out.2 0
 have x1:=q_ X.out.2 1
 have x2:=q_ X.out.2 2
 have x3:=q_ X.out.2 3
 have x4:=q_ X.out.2 4
 have x5:=q_ X.out.2 5
 have x6:=q_ X.out.2 6
 go_wp2_with fail
 refine (H2.out K2 _ k2 k2' C.out).mono ?_
 rintro e w3 ⟨⟨K3,rfl,k3,k3'⟩,hc⟩
 clear xl x0 x1 x2 x3 x4 x5 x6
 replace k3':K3≤60000000000001:=by omega
 replace X:=H_ (ChG.Chg.blk hc X.out (fun q=>by have:=HO.out;omega))
 replace C:=H_ ((C.out.wide (S':=fun b=>base≤b∧b<g3) (fun b q=>by have:=HO.out;omega)).trans (hc.wide (fun b q=>by have:=HO.out;omega)))
 clear hc
 have xl:=X.out.1
 have x0:=q_ X.out.2 0
 have x1:=q_ X.out.2 1
 have x2:=q_ X.out.2 2
 have x3:=q_ X.out.2 3
 have x4:=q_ X.out.2 4
 have x5:=q_ X.out.2 5
 have x6:=q_ X.out.2 6
 go_wp2_with fail
 refine (H3.out K3 _ k3 k3' C.out).mono ?_
 rintro e w4 ⟨⟨K4,rfl,k4,k4'⟩,hc⟩
 clear xl x0 x1 x2 x3 x4 x5 x6
 replace k4':K4≤80000000000001:=by omega
 replace X:=H_ (ChG.Chg.blk hc X.out (fun q=>by have:=HO.out;omega))
 replace C:=H_ ((C.out.wide (S':=fun b=>base≤b∧b<g4) (fun b q=>by have:=HO.out;omega)).trans (hc.wide (fun b q=>by have:=HO.out;omega)))
 clear hc
 have xl:=X.out.1
 have x0:=q_ X.out.2 0
 have x1:=q_ X.out.2 1
 have x2:=q_ X.out.2 2
 have x3:=q_ X.out.2 3
 have x4:=q_ X.out.2 4
 have x5:=q_ X.out.2 5
 have x6:=q_ X.out.2 6
 go_wp2_with fail
 refine (H4.out K4 _ k4 k4' C.out).mono ?_
 rintro e w5 ⟨⟨K5,rfl,k5,k5'⟩,hc⟩
 clear xl x0 x1 x2 x3 x4 x5 x6
 replace k5':K5≤100000000000001:=by omega
 replace X:=H_ (ChG.Chg.blk hc X.out (fun q=>by have:=HO.out;omega))
 replace C:=H_ ((C.out.wide (S':=fun b=>base≤b∧b<t4) (fun b q=>by have:=HO.out;omega)).trans (hc.wide (fun b q=>by have:=HO.out;omega)))
 clear hc
 go_wp2_with fail
 go_ret
 exact ⟨⟨K5,rfl⟩,C.out.wide (fun b q=>by have:=HO.out;omega)⟩
theorem MkE.marked {base top:Nat} {v:Value} {x:Eng} {w:World} (h:MkE base top v x w) (hS:x.Small) :
 Calls Tryz.prog 10 #[v,.int .i64 1] w fun e w'=>(∃K:Nat,e=.returned (.int .i64 K))∧Chg (fun b=>base≤b∧b<top) w w':=by
 obtain ⟨B,a,b,t0,g1,t1,g2,t2,g3,t3,g4,t4,rfl,⟨⟨h0,h1⟩,⟨h2,h3⟩,⟨h4,h5⟩,⟨h6,h7,h8⟩,⟨h9,h10,h11⟩⟩,hB,l1,l2,l3,l4,l5,l6⟩:=h
 have hab:B<b:=by
  obtain ⟨g,bs,q,e1,e2,e3,_⟩:=h0
  simp only [Value.agg.injEq,Array.mk.injEq,List.cons.injEq,Value.slice.injEq,Option.some.injEq,Addr.mk.injEq,and_true] at e1
  obtain ⟨e4,e5⟩:=e1
  have:=e2.1
  omega
 refine (zeng_in _ _ _ _ _ _ _ _ _ _ _ _ _ _ _ _ _ _ x.fr base B g1 g2 g3 g4 t0 t1 t2 t3 t4 w (by omega) ?_ ?_ ?_ ?_ ?_).mono fun e w' h=>⟨h.1,h.2.wide (fun b q=>by omega)⟩
 ·intro K W k1 k2 hc
  obtain rfl:K=1:=by omega
  have h0':=newca_kq h0 (⟨hc.size,fun k q1 q2=>hc.block k q2 (fun q=>by omega)⟩:Kq B w W)
  refine (markCa B _ x.c W t0 hS.c h0' (fun hh y e=>?_)).mono ?_
  ·simp only [Value.agg.injEq,Array.mk.injEq,List.cons.injEq,Value.slice.injEq,Option.some.injEq,Addr.mk.injEq,and_true] at e
   omega
  ·rintro e w' ⟨K,rfl,k1,k2,ho⟩
   exact ⟨⟨K,rfl,k1,by omega⟩,⟨ho.os,ho.tape,ho.output,ho.size,fun k q1 q2=>ho.block k q1 (by omega)⟩⟩
 ·intro K W k1 k2 hc
  refine (zSrs g1 _ x.ss.length _ K W hS.sl k1 (by omega) (.inr ⟨rfl,hc.pt h2 (fun q=>by omega)⟩)).mono ?_
  rintro e w' ⟨rfl,hc,_⟩
  have:=hS.sl
  exact ⟨⟨_,rfl,by omega,by omega⟩,hc.wide (fun b q=>by omega)⟩
 ·intro K W k1 k2 hc
  refine (zEns g2 _ x.es.length _ K W hS.el k1 (by omega) (.inr ⟨rfl,hc.pt h4 (fun q=>by omega)⟩)).mono ?_
  rintro e w' ⟨rfl,hc,_⟩
  have:=hS.el
  exact ⟨⟨_,rfl,by omega,by omega⟩,hc.wide (fun b q=>by omega)⟩
 ·intro K W k1 k2 hc
  refine (zWns g3 t3 _ K x.ws.length x.ws W hS.wl (fun j hj=>⟨(hS.ws j hj).2.2.1,(hS.ws j hj).2.2.2.2⟩) k1 (by omega) h8 (hc.pt h6 (fun q=>by omega)) (zchgWX h7 h6.lt hc (fun b q=>by omega) (fun p m q1 q2 q3=>hc.pt q3 (fun q=>by omega)))).mono ?_
  rintro e w' ⟨⟨K2,rfl,k3,k4⟩,hc,_⟩
  have:=hS.wl
  exact ⟨⟨K2,rfl,k3,by omega⟩,hc⟩
 ·intro K W k1 k2 hc
  refine (zDcs g4 t4 _ K x.ds.length x.ds W hS.dl (fun j hj=>(hS.ds _ (RowG.getD_mem (z:=LedR.D.zero) x.ds j hj)).2.1) k1 (by omega) h11 (hc.pt h9 (fun q=>by omega)) (zchgDY h10 h9.lt hc (fun b q=>by omega) (fun p m q1 q2 q3=>hc.pt q3 (fun q=>by omega)))).mono ?_
  rintro e w' ⟨⟨K2,rfl,k3,k4⟩,hc,_⟩
  have:=hS.dl
  exact ⟨⟨K2,rfl,k3,by omega⟩,hc⟩
end EngR
end Go.Proofs.YtnceeaccbcfopaaGreatDoor
namespace Go.Proofs.YtnceeaccbcfopaaGreatDoor
open Go.ChangeShapes Go.WideShapes Go.ChangeAt Go.RowKit Go.Deep
set_option linter.unusedVariables false
namespace EngR
open CatR
section
variable {J:Type} {enc:TypeId × Value→J} {w:World} {base:Nat} {spare:Nat→Bool} {held:Bool}
theorem lst7 {α:Type} {cs:List α} (h:cs.length=7):∃c0 c1 c2 c3 c4 c5 c6,cs=[c0,c1,c2,c3,c4,c5,c6]:=by
 match cs,h with
 | [c0,c1,c2,c3,c4,c5,c6],_=>exact ⟨c0,c1,c2,c3,c4,c5,c6,rfl⟩
theorem eng_cells {P:Program} {t:TypeId} {f0 f1 f2 f3 f4 f5:Field} {fuel:Nat} {cs:List Value} {x:DataW J × List MemPlace} (hs:P.underlying t=some (.struct #[f0,f1,f2,f3,f4,f5])) (hC:P.cellsOf t=7)
 (o0:f0.offset=0) (o1:f1.offset=2) (o2:f2.offset=3) (o3:f3.offset=4) (o4:f4.offset=5) (o5:f5.offset=6)
 (k0:P.cellsOf f0.type=2) (k1:P.cellsOf f1.type=1) (k2:P.cellsOf f2.type=1) (k3:P.cellsOf f3.type=1) (k4:P.cellsOf f4.type=1) (k5:P.cellsOf f5.type=1)
 (h:DataW.trod enc P w base spare held fuel t cs=some x) :
 ∃n c0 c1 c2 c3 c4 c5 c6,cs=[c0,c1,c2,c3,c4,c5,c6]∧(∃y,DataW.trod enc P w base spare held n f0.type [c0,c1]=some y)∧(∃y,DataW.trod enc P w base spare held n f1.type [c2]=some y)∧(∃y,DataW.trod enc P w base spare held n f2.type [c3]=some y)∧(∃y,DataW.trod enc P w base spare held n f3.type [c4]=some y)∧(∃y,DataW.trod enc P w base spare held n f4.type [c5]=some y)∧∃y,DataW.trod enc P w base spare held n f5.type [c6]=some y:=by
 obtain ⟨xs,n,_,_,hl,hlen,hf⟩:=DataW.trod_struct hs h
 obtain ⟨c0,c1,c2,c3,c4,c5,c6,rfl⟩:=lst7 (hl.trans hC)
 obtain ⟨y0,y1,y2,y3,y4,y5,rfl⟩:=lst6 (show xs.length=6 from hlen)
 have h0:=hf 0 f0 rfl
 have h1:=hf 1 f1 rfl
 have h2:=hf 2 f2 rfl
 have h3:=hf 3 f3 rfl
 have h4:=hf 4 f4 rfl
 have h5:=hf 5 f5 rfl
 simp [o0,k0] at h0
 simp [o1,k1] at h1
 simp [o2,k2] at h2
 simp [o3,k3] at h3
 simp [o4,k4] at h4
 simp [o5,k5] at h5
 exact ⟨n,c0,c1,c2,c3,c4,c5,c6,rfl,⟨_,h0⟩,⟨_,h1⟩,⟨_,h2⟩,⟨_,h3⟩,⟨_,h4⟩,⟨_,h5⟩⟩
theorem eng_open {fuel:Nat} {cs:List Value} {y:DataW J × List MemPlace} (h:DataW.trod enc Tryz.prog w base spare held fuel 31 cs=some y) :
 ∃(x:Eng) (ma:Option Addr) (mc:Nat) (ca:Option Addr) (cc:Nat) (sa:Option Addr) (sc:Nat) (ea:Option Addr) (ec:Nat) (ua:Option Addr) (uc:Nat) (da:Option Addr) (dc:Nat),cs=(ecells x ma mc ca cc sa sc ea ec ua uc da dc).toList∧x.In∧(∀d∈x.ds,(Lit.int .i64 d.mo).wf=true)∧IsEng (.agg (ecells x ma mc ca cc sa sc ea ec ua uc da dc)) x w:=by
 obtain ⟨n,c0,c1,c2,c3,c4,c5,c6,rfl,⟨y0,h0⟩,⟨y1,h1⟩,⟨y2,h2⟩,⟨y3,h3⟩,⟨y4,h4⟩,⟨y5,h5⟩⟩:=eng_cells Tryz.underlying31 (by kernel_rfl) rfl rfl rfl rfl rfl rfl (by kernel_rfl) (by kernel_rfl) (by kernel_rfl) (by kernel_rfl) (by kernel_rfl) (by kernel_rfl) h
 obtain ⟨ma,ml,mc,ca,cl,cc,e0,⟨n1,z1,t1⟩,⟨n2,z2,t2⟩⟩:=ca_cells Tryz.underlying25 (by kernel_rfl) (by kernel_rfl) Tryz.underlying22 Tryz.underlying23 h0
 simp only [List.cons.injEq,and_true] at e0
 obtain ⟨rfl,rfl⟩:=e0
 obtain ⟨wl,ms,hml,wi,hM⟩:=mes_open (tt:=0) Tryz.underlying22 Tryz.underlying141 (by kernel_rfl) (by kernel_rfl) Tryz.underlying9 Tryz.underlying2 Tryz.underlying4 Tryz.underlying2 Tryz.underlying2 Tryz.underlying139 Tryz.underlying259 (by kernel_rfl) (by kernel_rfl) Tryz.underlying2 Tryz.underlying2 t1
 obtain ⟨wl',rs,hcl,wi',hR⟩:=crs_open Tryz.underlying23 Tryz.underlying144 (by kernel_rfl) (by kernel_rfl) Tryz.underlying9 Tryz.underlying2 t2
 obtain ⟨sa,sl,sc,rfl⟩:=slice_of Tryz.underlying26 h1
 obtain ⟨sw,ss,hsl,si,hSs⟩:=crs_open Tryz.underlying26 Tryz.underlying87 (by kernel_rfl) (by kernel_rfl) Tryz.underlying9 Tryz.underlying2 h1
 obtain ⟨ea,el,ec,rfl⟩:=slice_of Tryz.underlying27 h2
 obtain ⟨es,hel,ew,hEs,ei⟩:=SeenR.ens_open Tryz.underlying27 Tryz.underlying90 (by kernel_rfl) (by kernel_rfl) Tryz.underlying9 Tryz.underlying2 Tryz.underlying2 h2
 obtain ⟨ua,ul,uc,rfl⟩:=slice_of Tryz.underlying28 h3
 obtain ⟨ws,hul,uw,hWs,ui⟩:=WinR.wns_open Tryz.underlying28 Tryz.underlying95 (by kernel_rfl) (by kernel_rfl) Tryz.underlying9 Tryz.underlying9 Tryz.underlying2 Tryz.underlying2 Tryz.underlying2 Tryz.underlying2 Tryz.underlying92 Tryz.underlying93 Tryz.underlying9 (by kernel_rfl) Tryz.underlying220 (by kernel_rfl) (by kernel_rfl) Tryz.underlying2 Tryz.underlying2 h3
 obtain ⟨da,dl,dc,rfl⟩:=slice_of Tryz.underlying29 h4
 obtain ⟨ds,hdl,dw,hDs,di⟩:=LedR.docs_open Tryz.underlying29 Tryz.underlying99 (by kernel_rfl) (by kernel_rfl) Tryz.underlying9 Tryz.underlying2 Tryz.underlying2 Tryz.underlying97 Tryz.underlying212 (by kernel_rfl) (by kernel_rfl) Tryz.underlying9 Tryz.underlying2 h4
 obtain ⟨fr,ef,rfl,wf⟩:=DataW.trod_int Tryz.underlying2 h5
 simp only [List.cons.injEq,and_true] at ef
 subst ef hml hcl hsl hel hul hdl
 exact ⟨⟨⟨ms,rs⟩,ss,es,ws,ds,fr⟩,ma,mc,ca,cc,sa,sc,ea,ec,ua,uc,da,dc,rfl,⟨⟨wl,wi,wl',wi'⟩,sw,si,ew,ei,uw,ui,dw,di,wf⟩,fun d hd=>(di d hd).2,⟨ma,mc,ca,cc,sa,sc,ea,ec,ua,uc,da,dc,rfl,hM,hR,hSs,hEs,hWs,hDs⟩⟩
end
end EngR
end Go.Proofs.YtnceeaccbcfopaaGreatDoor
