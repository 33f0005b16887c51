/-
  What marking a list of documents promises, put together of what marking their own lists promises.
  The program's rising lists: whether hours rise.
  Leap years, and the days of the week: either side tells the same.
  The days of a month, and whether a date is right: either side tells the same.
  Whether a date is right: either side tells the same.
  A date's day: either side tells the same.
  The conditions stand in what each theorem says.
-/
import Derived.Deep.QuietTactic
import Derived.BigQuiet
import Derived.Deep.RegionHeld3
import Derived.Deep.DrawnRows
import Derived.Test.YtnceeaccbcfopaaGreatDoorT12
set_option maxRecDepth 100000
set_option maxHeartbeats 16000000
namespace Go.Proofs.YtnceeaccbcfopaaGreatDoor
open Go.ChangeShapes Go.WideShapes Go.ChangeAt Go.RowKit
set_option linter.unusedVariables false
namespace LedR
open RowG ChG
open EvtR (Pt)
open MarkR (mk mT mark_any)
def vC (Kx:Nat→Nat) (aa:Nat→Option Addr) (al ac:Nat→Nat) (o:Nat):Option Value:=([.string (mT (Kx (o / 4))),.int .i64 ((Kx (o / 4):Int)+1),.int .i64 ((Kx (o / 4):Int)+1+1),.slice (aa (o / 4)) (al (o / 4)) (ac (o / 4))]:List Value)[o % 4]?
theorem vC_at (Kx:Nat→Nat) (aa:Nat→Option Addr) (al ac:Nat→Nat) (i x:Nat) (hx:x<4):vC Kx aa al ac (i*4+x)=([.string (mT (Kx i)),.int .i64 ((Kx i:Int)+1),.int .i64 ((Kx i:Int)+1+1),.slice (aa i) (al i) (ac i)]:List Value)[x]?:=by
 have e1:(i*4+x) / 4=i:=by omega
 have e2:(i*4+x) % 4=x:=by omega
 unfold vC
 rw [e1,e2]
theorem vst {f:Nat→Option Value} {g m j:Nat} {w0 w:World} (hp:Pt g m w) (hm:Wr f j g w) (hg:w0.grownBy w (some g)) (hj:j<m) (v:Value) (hv:f j=some v) :
 Pt g m (w.setCell ⟨g,j,none⟩ v)∧Wr f (j+1) g (w.setCell ⟨g,j,none⟩ v)∧w0.grownBy (w.setCell ⟨g,j,none⟩ v) (some g) :=
 ⟨hp.set _ _,hm.more hp hj v hv,SeenR.kgt hg (grown_set _ g _ _)⟩
theorem vnx {f:Nat→Option Value} {j g:Nat} {w:World} {v:Value} (h:Wr f j g w) (hc:w.cell? ⟨g,j,none⟩=some v) (hf:f j=some v):Wr f (j+1) g w:=fun o ho=>by
 by_cases e:o=j
 ·rw [e,hc,hf]
 ·exact h o (by omega)
structure Vk (g n i:Nat) (Kx:Nat→Nat) (aa:Nat→Option Addr) (al ac:Nat→Nat) (Ta:Nat→Nat→Prop) (W wr:World):Prop where
 pt:Pt g (n*4) wr
 ce:Wr (vC Kx aa al ac) (i*4) g wr
 cl:∀j,i≤j→j<n→wr.cell? ⟨g,j*4+3,none⟩=some (.slice (aa j) (al j) (ac j))
 hd:∀j,j<i→Hd 97 (.slice (aa j) (al j) (ac j)) (Kx j+3) (Kx (j+1)) (Ta j) wr
 chg:Chg (fun b=>b=g∨∃j,j<i∧(Ta j b)) W wr
structure Vh (g n:Nat) (Kx:Nat→Nat) (aa:Nat→Option Addr) (al ac:Nat→Nat) (Ta:Nat→Nat→Prop) (w:World):Prop where
 pt:Pt g (n*4) w
 cl:∀j,j<n→w.cell? ⟨g,j*4+3,none⟩=some (.slice (aa j) (al j) (ac j))
 kx:∀j,j≤n→1≤Kx j∧Kx j≤5300001
 ma:∀j,j<n→MkH 92 97 (.slice (aa j) (al j) (ac j)) (Kx j+3) (Kx (j+1)) (Ta j) w
 la:∀j,j<n→al j≤1048576
 og:∀j,j<n→∀b,(Ta j b)→b≠g
 ap:∀i j,i<n→j<n→i≠j→∀b,(Ta i b)→(Ta j b)→False
theorem v_mark (g n cap:Nat) (Kx:Nat→Nat) (aa:Nat→Option Addr) (al ac:Nat→Nat) (Ta:Nat→Nat→Prop) (w W:World) (S:Nat→Prop) (hn:n≤1048576) (h:Vh g n Kx aa al ac Ta w) (hc:Chg S w W) (hS:∀b,S b→¬(b=g∨∃j,j<n∧(Ta j b))) :
 Calls Tryz.prog 42 #[.slice (some ⟨g,0,none⟩) n cap,.int .i64 (Kx 0:Nat)] W fun e w'=>e=.returned (.int .i64 (Kx n:Nat))∧Vk g n n Kx aa al ac Ta W w':=by
 have HT:Hid (∀(z:Int) (K:Nat),z=K→1≤K→K<100000000→∀w,Calls Tryz.prog 89 #[.int .i64 z] w fun e w'=>e=.returned (.string (mT K))∧Below w.heap.size w w'):=H_ (fun z K e h0 h w=>by subst e;exact mark_any K h0 h w)
 have HH:=H_ h
 have HC:=H_ hc
 have HS:=H_ hS
 have HV0:Hid (Vk g n 0 Kx aa al ac Ta W W):=H_ ⟨hc.pt h.pt (fun q=>hS g q (.inl rfl)),fun o ho=>absurd ho (by omega),fun j _ hj=>by
  have eb:=hc.block g h.pt.lt (fun q=>hS g q (.inl rfl))
  have c:=h.cl j hj
  exact (World.cell?_of_block (a:=⟨g,j*4+3,none⟩) eb).trans c,fun j hj=>absurd hj (by omega),Chg.refl _ _⟩
 clear h hc hS
 go_enter Tryz.func42,Tryz.ntmps42
 go_wp2_with fail
 go_loopw [5,1] (fun x z wr=>∃(i:Nat),x=.int .i64 (i:Int)∧z=.int .i64 ((Kx i:Nat):Int)∧i≤n∧Hid (Vk g n i Kx aa al ac Ta W wr)) (fun x _ _=>n-(intOf x).toNat)
 case atStart=>exact ⟨0,rfl,rfl,by omega,HV0⟩
 case round =>
  clear HV0
  obtain ⟨i,rfl,rfl,hi,HV⟩:=hrel
  by_cases hin:i=n
  ·subst hin
   go_wp2_with fail
   go_ret
   exact ⟨rfl,HV.out⟩
  ·have h1:(i:Int)<(n:Int):=by omega
   have hil:i<n:=by omega
   obtain ⟨k0,k1⟩:=HH.out.kx i (by omega)
   have k2:=(HH.out.kx (i+1) (by omega)).2
   have hla:=HH.out.la i hil
   have HP:=H_ HV.out.pt
   have HM:=H_ HV.out.ce
   have HCL:=H_ (HV.out.cl i (Nat.le_refl _) hil)
   have HCJ:Hid (∀j,i+1≤j→j<n→wr.cell? ⟨g,j*4+3,none⟩=some (.slice (aa j) (al j) (ac j))):=H_ (fun j hj hjn=>HV.out.cl j (by omega) hjn)
   have HG:Hid (wr.grownBy wr (some g)):=H_ ⟨rfl,rfl,rfl,Nat.le_refl _,fun _ _ _=>rfl⟩
   have HVA:=H_ (fun x (hx:x<4)=>vC_at Kx aa al ac i x hx)
   obtain ⟨K,hKi⟩:∃K,K=Kx i:=⟨_,rfl⟩
   have HKi:=H_ hKi
   rw [←hKi] at HVA k0 k1
   rw [show ((Kx i:Nat):Int)=(K:Int) by rw [hKi]]
   clear hKi
   go_wp2_with fail
   refine (HT.out _ (K) (by push_cast;omega) (by omega) (by omega) _).mono ?_
   rintro e w1 ⟨rfl,hb⟩
   replace HG:=H_ (SeenR.kgt HG.out (SeenR.kgr hb _))
   replace HM:=H_ (HM.out.below HP.out hb)
   replace HCL:Hid (w1.cell? ⟨g,i*4+3,none⟩=some (.slice (aa i) (al i) (ac i))):=H_ (by
    have c:=fun o=>hb.cell (p:=⟨g,o,none⟩) HP.out.lt
    exact (c _).trans HCL.out)
   replace HCJ:Hid (∀j,i+1≤j→j<n→w1.cell? ⟨g,j*4+3,none⟩=some (.slice (aa j) (al j) (ac j))):=H_ (fun j hj hjn=>by
    have c:=HCJ.out j hj hjn
    have d:=fun o=>hb.cell (p:=⟨g,o,none⟩) HP.out.lt
    exact (d _).trans c)
   replace HP:=H_ (HP.out.below hb)
   clear hb
   obtain ⟨v0,c0⟩:=HP.out.has (i*4) (by omega)
   have f0:=HP.out.free (i*4) (by omega)
   obtain ⟨v1,c1⟩:=HP.out.has (i*4+1) (by omega)
   have f1:=HP.out.free (i*4+1) (by omega)
   obtain ⟨v2,c2⟩:=HP.out.has (i*4+2) (by omega)
   have f2:=HP.out.free (i*4+2) (by omega)
   have HS0:=H_ (vst (j:=i*4) HP.out HM.out HG.out (by omega) (.string (mT (K))) (HVA.out 0 (by omega)))
   replace HP:=H_ HS0.out.1
   replace HM:=H_ HS0.out.2.1
   replace HG:=H_ HS0.out.2.2
   clear HS0
   have HS1:=H_ (vst (j:=i*4+1) HP.out HM.out HG.out (by omega) (.int .i64 ((K:Int)+1)) (HVA.out 1 (by omega)))
   replace HP:=H_ HS1.out.1
   replace HM:=H_ HS1.out.2.1
   replace HG:=H_ HS1.out.2.2
   clear HS1
   have HS2:=H_ (vst (j:=i*4+2) HP.out HM.out HG.out (by omega) (.int .i64 ((K:Int)+1+1)) (HVA.out 2 (by omega)))
   replace HP:=H_ HS2.out.1
   replace HM:=H_ HS2.out.2.1
   replace HG:=H_ HS2.out.2.2
   clear HS2
   obtain ⟨W1,hW1⟩:∃z,z=(((w1.setCell ⟨g,i*4,none⟩ (.string (mT (K)))).setCell ⟨g,i*4+1,none⟩ (.int .i64 ((K:Int)+1))).setCell ⟨g,i*4+2,none⟩ (.int .i64 ((K:Int)+1+1))):=⟨_,rfl⟩
   rw [←hW1] at HP HM HG
   replace HCL:Hid (W1.cell? ⟨g,i*4+3,none⟩=some (.slice (aa i) (al i) (ac i))):=H_ (by
    have c:=HCL.out
    rw [hW1]
    exact by rw [EvtR.cell_far _ _ (by omega)];rw [EvtR.cell_far _ _ (by omega)];rw [EvtR.cell_far _ _ (by omega)];exact c)
   replace HCJ:Hid (∀j,i+1≤j→j<n→W1.cell? ⟨g,j*4+3,none⟩=some (.slice (aa j) (al j) (ac j))):=H_ (fun j hj hjn=>by
    have c:=HCJ.out j hj hjn
    rw [hW1]
    exact by rw [EvtR.cell_far _ _ (by omega)];rw [EvtR.cell_far _ _ (by omega)];rw [EvtR.cell_far _ _ (by omega)];exact c)
   have HW1:=H_ hW1
   clear hW1
   have q0:=HCL.out
   have hq:g<W1.heap.size:=HP.out.lt
   have q0':w1.cell? ⟨g,i*4+3,none⟩=some (.slice (aa i) (al i) (ac i)):=by
    have q:=q0
    rw [HW1.out] at q
    rw [EvtR.cell_far _ _ (by omega)] at q;rw [EvtR.cell_far _ _ (by omega)] at q;rw [EvtR.cell_far _ _ (by omega)] at q;exact q
   clear q0 hq
   go_wp2_with fail
   rw [←HW1.out]
   clear HW1 q0'
   clear c0 f0 c1 f1 c2 f2
   have HY:Hid (Chg (fun b=>S b∨((b=g∨∃j,j<i∧(Ta j b))∨b=g)) w W1):=H_ (HC.out.join (HV.out.chg.join ((Chg.refl _ _).grown HG.out rfl)))
   have HX:Hid (Chg (fun b=>b=g) wr W1):=H_ ((Chg.refl _ _).grown HG.out rfl)
   have HMK:Hid (∀z:Int,z=((K+3:Nat):Int)→Calls Tryz.prog 92 #[.slice (aa i) (al i) (ac i),.int .i64 z] W1 fun e w'=>e=.returned (.int .i64 ((Kx (i+1):Nat):Int))∧Chg (Ta i) W1 w'∧Hd 97 (.slice (aa i) (al i) (ac i)) (Kx i+3) (Kx (i+1)) (Ta i) w'):=H_ (fun z hz=>by
    subst hz
    rw [HKi.out]
    refine HH.out.ma i hil _ _ HY.out ?_
    rintro b (q|(q|⟨j,hj,q⟩)|q) q2
    ·exact HS.out b q (.inr ⟨i,hil,q2⟩)
    ·exact HH.out.og i hil b (q2) q
    ·exact HH.out.ap j i (by omega) hil (by omega) b q (q2)
    ·exact HH.out.og i hil b (q2) q)
   refine (HMK.out _ (by first|rfl|(push_cast;omega))).mono ?_
   rintro e y0 ⟨rfl,hc,hh⟩
   have hng:¬Ta i g:=fun q=>HH.out.og i hil g (q) rfl
   have eb:=hc.block g HP.out.lt hng
   replace HM:=H_ (wr_blk HM.out eb)
   replace HCL:Hid (y0.cell? ⟨g,i*4+3,none⟩=some (.slice (aa i) (al i) (ac i))):=H_ (by
    have c:=fun o=>World.cell?_of_block (a:=⟨g,o,none⟩) eb
    exact (c _).trans HCL.out)
   replace HCJ:Hid (∀j,i+1≤j→j<n→y0.cell? ⟨g,j*4+3,none⟩=some (.slice (aa j) (al j) (ac j))):=H_ (fun j hj hjn=>by
    have c:=HCJ.out j hj hjn
    have d:=fun o=>World.cell?_of_block (a:=⟨g,o,none⟩) eb
    exact (d _).trans c)
   replace HP:=H_ (hc.pt HP.out hng)
   replace HY:=H_ (HY.out.join hc)
   replace HX:=H_ (HX.out.join hc)
   have HDa:=H_ hh
   clear hc hh hng eb HMK
   have HVN:Hid (Vk g n (i+1) Kx aa al ac Ta W y0):=H_ (by
    have hx:=HX.out
    have hm:=HM.out
    refine ⟨HP.out,?_,?_,?_,?_⟩
    ·rw [show (i+1)*4=i*4+3+1 by omega]
     exact (vnx hm HCL.out ((HVA.out 3 (by omega)).trans rfl))
    ·intro j hj hjn
     exact HCJ.out j hj hjn
    ·intro j hj
     by_cases e:j=i
     ·subst e
      exact HDa.out
     ·have h:=HV.out.hd j (by omega)
      exact h.chg hx (fun b q0 q2=>by
       rcases q0 with (rfl|q)
       ·exact HH.out.og j (by omega) _ (q2) rfl
       ·exact HH.out.ap i j hil (by omega) (by omega) b (q) (q2))
    ·refine (HV.out.chg.wide (fun b q=>?_)).trans (hx.wide (fun b q=>?_))
     ·rcases q with q|⟨j,hj,q⟩
      ·exact .inl q
      ·exact .inr ⟨j,by omega,q⟩
     ·rcases q with q|q
      ·exact .inl q
      ·exact .inr ⟨i,by omega,q⟩)
   clear HY HX HM HP HCL HCJ HDa
   go_wp2_with fail
   go_roundw
   case rel=>exact ⟨i+1,by go_num,rfl,by omega,HVN⟩
   case measure=>simp [intOf];omega
def vBx (w:World) (g o:Nat) (u0 u1 u2 u3:Value) (w':World):Prop:=Below w.heap.size w w'∧g<w'.heap.size∧w'.cell? ⟨g,o,none⟩=some u0∧w'.cell? ⟨g,o+1,none⟩=some u1∧w'.cell? ⟨g,o+2,none⟩=some u2∧w'.cell? ⟨g,o+3,none⟩=some u3
theorem vBx.below {w w1 w2:World} {g o:Nat} {u0 u1 u2 u3:Value} (h:vBx w g o u0 u1 u2 u3 w1) (hb:Below w1.heap.size w1 w2):vBx w g o u0 u1 u2 u3 w2:=by
 obtain ⟨h0,hl,c0,c1,c2,c3⟩:=h
 have c:=fun x=>hb.cell (p:=⟨g,x,none⟩) hl
 exact ⟨h0.trans (hb.mono h0.size),by have:=hb.size;omega,(c _).trans c0,(c _).trans c1,(c _).trans c2,(c _).trans c3⟩
theorem vBx.drew {w w1:World} {g o:Nat} {u0 u1 u2 u3:Value} (h:vBx w g o u0 u1 u2 u3 w1):vBx w g o u0 u1 u2 u3 w1.drew:=⟨h.1.drew,h.2⟩
theorem v_held (g n cap:Nat) (Kx:Nat→Nat) (aa:Nat→Option Addr) (al ac:Nat→Nat) (Ta:Nat→Nat→Prop) (w W V Y:World) (S:Nat→Prop) (hn:n≤1048576) (h:Vh g n Kx aa al ac Ta w) (hv:Vk g n n Kx aa al ac Ta W V) (hc:Chg S V Y) (hS:∀b,S b→¬(b=g∨∃j,j<n∧(Ta j b))) :
 Calls Tryz.prog 44 #[.slice (some ⟨g,0,none⟩) n cap,.int .i64 (Kx 0:Nat)] Y fun e w'=>e=.returned (.int .i64 (Kx n:Nat))∧Below Y.heap.size Y w':=by
 have HT:Hid (∀(z:Int) (K:Nat),z=K→1≤K→K<100000000→∀w,Calls Tryz.prog 89 #[.int .i64 z] w fun e w'=>e=.returned (.string (mT K))∧Below w.heap.size w w'):=H_ (fun z K e h0 h w=>by subst e;exact mark_any K h0 h w)
 have HH:=H_ h
 have HM:Hid (g<Y.heap.size∧Wr (vC Kx aa al ac) (n*4) g Y):=H_ ⟨Nat.lt_of_lt_of_le hv.pt.lt hc.size,wr_blk hv.ce (hc.block g hv.pt.lt (fun q=>hS g q (.inl rfl)))⟩
 have HD:Hid (∀j,j<n→Hd 97 (.slice (aa j) (al j) (ac j)) (Kx j+3) (Kx (j+1)) (Ta j) Y):=H_ (fun j hj=>by
  have h:=hv.hd j hj
  exact h.chg hc (fun b q q2=>hS b q (.inr ⟨j,hj,q2⟩)))
 clear h hv hc hS
 go_enter Tryz.func44,Tryz.ntmps44
 go_wp2_with fail
 go_loopw [5,1] (fun x z wr=>∃(i:Nat),x=.int .i64 (i:Int)∧z=.int .i64 ((Kx i:Nat):Int)∧i≤n∧Hid (Below Y.heap.size Y wr)) (fun x _ _=>n-(intOf x).toNat)
 case atStart=>exact ⟨0,rfl,rfl,by omega,H_ (Below.refl _ _)⟩
 case round =>
  obtain ⟨i,rfl,rfl,hi,HB⟩:=hrel
  by_cases hin:i=n
  ·subst hin
   go_wp2_with fail
   go_ret
   exact ⟨rfl,HB.out⟩
  ·have h1:(i:Int)<(n:Int):=by omega
   have hil:i<n:=by omega
   obtain ⟨k0,k1⟩:=HH.out.kx i (by omega)
   have k2:=(HH.out.kx (i+1) (by omega)).2
   have hla:=HH.out.la i hil
   have HDI:=H_ (HD.out i hil)
   have HVA:=H_ (fun x (hx:x<4)=>vC_at Kx aa al ac i x hx)
   obtain ⟨K,hKi⟩:∃K,K=Kx i:=⟨_,rfl⟩
   rw [←hKi] at HVA k0 k1 HDI
   rw [show ((Kx i:Nat):Int)=(K:Int) by rw [hKi]]
   have HR:Hid (∀x,x<4→wr.cell? ⟨g,i*4+x,none⟩=vC Kx aa al ac (i*4+x)):=H_ (fun x hx=>(HB.out.cell (p:=⟨g,i*4+x,none⟩) HM.out.1).trans (HM.out.2 (i*4+x) (by omega)))
   have hgl:g<wr.heap.size:=by have:=HB.out.size;have:=HM.out.1;omega
   clear hKi
   have q0:wr.cell? ⟨g,i*4,none⟩=some (.string (mT (K))):=(HR.out 0 (by omega)).trans (HVA.out 0 (by omega))
   have q1:wr.cell? ⟨g,i*4+1,none⟩=some (.int .i64 ((K:Int)+1)):=(HR.out 1 (by omega)).trans (HVA.out 1 (by omega))
   have q2:wr.cell? ⟨g,i*4+2,none⟩=some (.int .i64 ((K:Int)+1+1)):=(HR.out 2 (by omega)).trans (HVA.out 2 (by omega))
   have q3:wr.cell? ⟨g,i*4+3,none⟩=some (.slice (aa i) (al i) (ac i)):=(HR.out 3 (by omega)).trans (HVA.out 3 (by omega))
   have HT0:=H_ (fun z (hz:z=((K:Nat):Int)) w=>HT.out z (K) hz (by omega) (by omega) w)
   clear HR HVA
   generalize mT K=X0 at *
   have HS0:Hid (vBx Y g (i*4) (.string X0) (.int .i64 ((K:Int)+1)) (.int .i64 ((K:Int)+1+1)) (.slice (aa i) (al i) (ac i)) wr):=H_ ⟨HB.out,hgl,q0,q1,q2,q3⟩
   have HS1:=H_ HS0.out.drew
   go_wp2_with fail
   go_region_held3 (fun w'=>Below Y.heap.size Y w'∧g<w'.heap.size∧w'.cell? ⟨g,i*4,none⟩=some (.string X0)∧w'.cell? ⟨g,i*4+1,none⟩=some (.int .i64 ((K:Int)+1))∧w'.cell? ⟨g,i*4+2,none⟩=some (.int .i64 ((K:Int)+1+1))∧w'.cell? ⟨g,i*4+3,none⟩=some (.slice (aa i) (al i) (ac i))) (first|assumption|(exact HS0.out)|(exact HS1.out)|(exact vBx.below (w:=Y) (g:=g) (o:=i*4) (u0:=.string X0) (u1:=.int .i64 ((K:Int)+1)) (u2:=.int .i64 ((K:Int)+1+1)) (u3:=.slice (aa i) (al i) (ac i)) (by assumption) hb))
    (first|(go_at_call 89;refine (HT0.out _ (by first|rfl|(push_cast;omega)) _).mono ?_;rintro e w' ⟨rfl,hb⟩))
   rename_i hS
   replace HS0:Hid (vBx Y g (i*4) (.string X0) (.int .i64 ((K:Int)+1)) (.int .i64 ((K:Int)+1+1)) (.slice (aa i) (al i) (ac i)) _):=H_ hS
   clear HS1 q0 q1 q2 q3 hgl
   obtain ⟨hB0,hgl,q0,q1,q2,q3⟩:=hS
   clear hB0
   replace HB:=H_ HS0.out.1
   have HMK:Hid (∀(z:Int) W,z=((K+3:Nat):Int)→Below Y.heap.size Y W→Calls Tryz.prog 97 #[.slice (aa i) (al i) (ac i),.int .i64 z] W fun e w3=>e=.returned (.int .i64 ((Kx (i+1):Nat):Int))∧Below W.heap.size W w3):=H_ (fun z W hz hW=>by
    subst hz
    exact HDI.out (fun _=>False) W (Chg.of_below hW) (fun _ q=>q.elim))
   have hkn:¬((Kx (i+1):Nat):Int)<0:=by omega
   go_wp2_with fail
   refine (HMK.out _ _ (by first|rfl|(push_cast;omega)) HB.out).mono ?_
   rintro e z0 ⟨rfl,hb⟩
   replace HB:=HT_ HB hb
   replace HS0:=H_ (HS0.out.below hb)
   clear hb HMK hgl q0 q1 q2 q3
   go_wp2_with fail
   go_roundw
   case rel=>exact ⟨i+1,by go_num,rfl,by omega,HB⟩
   case measure=>simp [intOf];omega
theorem mkh_dcs_in (g n cap:Nat) (Kx:Nat→Nat) (aa:Nat→Option Addr) (al ac:Nat→Nat) (Ta:Nat→Nat→Prop) (w:World) (hn:n≤1048576) (h:Vh g n Kx aa al ac Ta w) :
 MkH 42 44 (.slice (some ⟨g,0,none⟩) n cap) (Kx 0) (Kx n) (fun b=>b=g∨∃j,j<n∧(Ta j b)) w:=by
 intro S W hc hS
 refine (v_mark g n cap Kx aa al ac Ta w W S hn h hc hS).mono ?_
 rintro e w' ⟨rfl,hv⟩
 exact ⟨rfl,hv.chg,fun S2 Y hc2 hS2=>v_held g n cap Kx aa al ac Ta w W w' Y S2 hn h hv hc2 hS2⟩
end LedR
namespace WinR
open RowG LtR
open CatR (Blk Blk.new)
def HSt (w:World) (ao:Option Addr) (len cap:Nat) (b o1 o2:Nat) (x y:H) (W:World):Prop:=Below w.heap.size w W∧w.heap.size<W.heap.size∧b<W.heap.size∧W.cell? ⟨w.heap.size,0,none⟩=some (.slice ao len cap)∧W.cell? ⟨w.heap.size,1,none⟩=some (.func (.func 214) #[] #[])∧W.cell? ⟨w.heap.size,2,none⟩=some (.func (.func 215) #[] #[])∧W.cell? ⟨b,o1,none⟩=some (.int .i64 x.h)∧W.cell? ⟨b,o1+1,none⟩=some (.int .i64 x.s)∧W.cell? ⟨b,o2,none⟩=some (.int .i64 y.h)∧W.cell? ⟨b,o2+1,none⟩=some (.int .i64 y.s)
theorem HSt.below {w:World} {ao:Option Addr} {len cap b o1 o2:Nat} {x y:H} {W W':World} (h:HSt w ao len cap b o1 o2 x y W) (hb:Below W.heap.size W W'):HSt w ao len cap b o1 o2 x y W':=by
 obtain ⟨h0,h1,h2,c0,c1,c2,d0,d1,d2,d3⟩:=h
 have c:=fun o=>hb.cell (p:=⟨w.heap.size,o,none⟩) h1
 have d:=fun o=>hb.cell (p:=⟨b,o,none⟩) h2
 have:=hb.size
 exact ⟨h0.trans (hb.mono h0.size),by omega,by omega,(c 0).trans c0,(c 1).trans c1,(c 2).trans c2,(d _).trans d0,(d _).trans d1,(d _).trans d2,(d _).trans d3⟩
theorem hours_rises (ao:Option Addr) (cap:Nat) (hs:List H) (w:World) (hlen:hs.length≤1048576) (hI:Hrs ao hs w) :
 Calls Tryz.prog 222 #[.agg #[.slice ao hs.length cap,.func (.func 214) #[] #[],.func (.func 215) #[] #[]]] w fun e w'=>e=.returned (.bool (riseB hlt H.zero hs))∧Below w.heap.size w w':=by
 have HI:=H_ hI
 have HNO:=H_ (fun k=>rise_no (r:=hlt) (z:=H.zero) (xs:=hs) (k:=k))
 have HYES:Hid (RiseTo hlt H.zero hs hs.length→riseB hlt H.zero hs=true):=H_ rise_yes
 generalize riseB hlt H.zero hs=R at *
 obtain ⟨len,hl⟩:∃len,len=hs.length:=⟨_,rfl⟩
 rw [←hl] at hlen HYES ⊢
 have HL:=H_ hl
 clear hI hl
 have HB0:Hid (Below w.heap.size w (w.alloc (.cells #[.slice ao len cap,.func (.func 214) #[] #[],.func (.func 215) #[] #[]] 194))):=H_ (al_ _ _)
 have HX0:Hid (Blk w.heap.size [.slice ao len cap,.func (.func 214) #[] #[],.func (.func 215) #[] #[]] (w.alloc (.cells #[.slice ao len cap,.func (.func 214) #[] #[],.func (.func 215) #[] #[]] 194))):=H_ (Blk.new w _ _)
 go_enter Tryz.func222,Tryz.ntmps222
 go_wp2_with fail
 go_loopw [3] (fun z wr=>∃k:Nat,1≤k∧(k=1∨k≤len)∧z=.int .i64 (k:Int)∧Hid (RiseTo hlt H.zero hs k)∧Hid (Below w.heap.size w wr)∧Hid (Blk w.heap.size [.slice ao len cap,.func (.func 214) #[] #[],.func (.func 215) #[] #[]] wr)) (fun z _=>len-(intOf z).toNat)
 case atStart=>exact ⟨1,by omega,by omega,rfl,H_ (rise_one _ (by omega)),HB0,HX0⟩
 case round =>
  obtain ⟨k,hk1,hk2,rfl,HR,HB,HX⟩:=hrel
  obtain ⟨xl,xc⟩:=HX.out
  have x0:=q_ xc 0
  have x1:=q_ xc 1
  have x2:=q_ xc 2
  clear xc
  by_cases hlt1:k<len
  ·have hlt2:(k:Int)<(len:Int):=by omega
   have hk0:(0:Int)≤(k:Int):=by omega
   obtain ⟨j,hj⟩:∃j,j=k-1:=⟨_,rfl⟩
   have hj0:(0:Int)≤(j:Int):=by omega
   have hj1:(j:Int)<(len:Int):=by omega
   have hwr:IntKind.i64.wrap ((k:Int)-1)=(j:Int):=by rw [IntKind.wrap_i64];omega
   obtain ⟨b,off,rfl,hbl,c1,c2⟩:=(HI.out.below HB.out).at k (by have:=HL.out;omega)
   obtain ⟨b',off',he,_,d1,d2⟩:=(HI.out.below HB.out).at j (by have:=HL.out;omega)
   obtain ⟨rfl,rfl⟩:b=b'∧off=off':=by simpa using he
   have HN:=H_ (HNO.out k (by have:=HL.out;omega) (by omega))
   have HM:=H_ (fun h=>HR.out.more (k:=k) h)
   rw [←hj] at HN HM
   generalize hs.getD k H.zero=X at *
   generalize hs.getD j H.zero=Y at *
   have HS0:Hid (HSt w (some ⟨b,off,none⟩) len cap b (off+k*2) (off+j*2) X Y wr.drew):=H_ (HSt.below ⟨HB.out,xl,hbl,x0,x1,x2,c1,c2,d1,d2⟩ (Below.refl _ _).drew)
   obtain ⟨xh,xs⟩:=X
   obtain ⟨yh,ys⟩:=Y
   dsimp only at c1 c2 d1 d2
   clear hj
   by_cases hle:xh≤yh
   ·have HF:Hid (R=false):=H_ (HN.out (by unfold hlt;exact decide_eq_false (by show ¬yh<xh;omega)))
    go_wp2_with fail
    go_region_held3 (fun W=>Below w.heap.size w W∧w.heap.size<W.heap.size∧b<W.heap.size∧W.cell? ⟨w.heap.size,0,none⟩=some (.slice (some ⟨b,off,none⟩) len cap)∧W.cell? ⟨w.heap.size,1,none⟩=some (.func (.func 214) #[] #[])∧W.cell? ⟨w.heap.size,2,none⟩=some (.func (.func 215) #[] #[])∧W.cell? ⟨b,off+k*2,none⟩=some (.int .i64 xh)∧W.cell? ⟨b,off+k*2+1,none⟩=some (.int .i64 xs)∧W.cell? ⟨b,off+j*2,none⟩=some (.int .i64 yh)∧W.cell? ⟨b,off+j*2+1,none⟩=some (.int .i64 ys)) (first|assumption|(exact HS0.out)|(exact HSt.below (x:=⟨xh,xs⟩) (y:=⟨yh,ys⟩) (by assumption) hb))
     (first|(go_at_call 214;refine (hkey _ _ _).mono ?_;rintro e w' ⟨rfl,hb⟩))
    rename_i hSz
    have HSz:=H_ hSz.1
    clear hSz
    go_wp2_with fail
    go_ret
    exact ⟨ret_bool HF.out.symm,HSz.out⟩
   ·have hle2:yh<xh:=by omega
    have HM2:=H_ (HM.out (fun _=>by unfold hlt;exact decide_eq_true (by show yh<xh;omega)))
    go_wp2_with fail
    go_region_held3 (fun W=>Below w.heap.size w W∧w.heap.size<W.heap.size∧b<W.heap.size∧W.cell? ⟨w.heap.size,0,none⟩=some (.slice (some ⟨b,off,none⟩) len cap)∧W.cell? ⟨w.heap.size,1,none⟩=some (.func (.func 214) #[] #[])∧W.cell? ⟨w.heap.size,2,none⟩=some (.func (.func 215) #[] #[])∧W.cell? ⟨b,off+k*2,none⟩=some (.int .i64 xh)∧W.cell? ⟨b,off+k*2+1,none⟩=some (.int .i64 xs)∧W.cell? ⟨b,off+j*2,none⟩=some (.int .i64 yh)∧W.cell? ⟨b,off+j*2+1,none⟩=some (.int .i64 ys)) (first|assumption|(exact HS0.out)|(exact HSt.below (x:=⟨xh,xs⟩) (y:=⟨yh,ys⟩) (by assumption) hb))
     (first|(go_at_call 214;refine (hkey _ _ _).mono ?_;rintro e w' ⟨rfl,hb⟩))
    rename_i hSz
    have HSz:=H_ hSz.1
    have HSy:Hid (Blk w.heap.size [.slice (some ⟨b,off,none⟩) len cap,.func (.func 214) #[] #[],.func (.func 215) #[] #[]] w'):=H_ ⟨hSz.2.1,fun i hi=>by
     match i,hi with
     | 0,_=>exact hSz.2.2.2.1
     | 1,_=>exact hSz.2.2.2.2.1
     | 2,_=>exact hSz.2.2.2.2.2.1⟩
    clear hSz
    go_wp2_with fail
    go_roundw
    case rel=>exact ⟨k+1,by omega,by omega,by go_num,HM2,HSz,HSy⟩
    case measure=>simp [intOf];omega
  ·have hlt2:¬(k:Int)<(len:Int):=by omega
   have HF:Hid (R=true):=H_ (HYES.out (fun i h1 h2=>HR.out i (by omega) h2))
   go_wp2_with fail
   go_ret
   exact ⟨ret_bool HF.out.symm,HB.out⟩
end WinR
namespace DateR
open DateM
theorem H_ {p:Prop} (h:p):Hid p:=h
theorem tmod_iff (y k:Int):y.tmod k=0↔y % k=0:=⟨fun h=>Int.emod_eq_zero_of_dvd (Int.dvd_of_tmod_eq_zero h),fun h=>Int.tmod_eq_zero_of_dvd (Int.dvd_of_emod_eq_zero h)⟩
theorem leap_a (y:Int) (h1:y.tmod 4=0) (h2:y.tmod 100=0):(y.tmod 400==0)=leapB y:=by
 rw [tmod_iff] at h1 h2
 unfold leapB
 rw [Bool.eq_iff_iff,beq_iff_eq,decide_eq_true_eq,tmod_iff]
 omega
theorem leap_b (y:Int) (h1:y.tmod 4=0) (h2:¬y.tmod 100=0):true=leapB y:=by
 rw [tmod_iff] at h1 h2
 exact (decide_eq_true ⟨h1,.inl h2⟩).symm
theorem leap_c (y:Int) (h1:¬y.tmod 4=0):false=leapB y:=by
 rw [tmod_iff] at h1
 exact (decide_eq_false fun h=>h1 h.1).symm
theorem leap_d (y:Int) (h1:¬y.tmod 4=0):(y.tmod 400==0)=leapB y:=by
 rw [tmod_iff] at h1
 unfold leapB
 rw [Bool.eq_iff_iff,beq_iff_eq,decide_eq_true_eq,tmod_iff]
 omega
theorem impl_leap (y:Int) (w:World):Calls Tryz.prog 218 #[.int .i64 y] w fun e w'=>e=.returned (.bool (leapB y))∧w'=w:=by
 go_enter Tryz.func218,Tryz.ntmps218
 go_wp2
 ·go_ret
  exact ⟨ret_bool (leap_a y ‹_› ‹_›),rfl⟩
 ·go_ret
  exact ⟨ret_bool (leap_b y ‹_› ‹_›),rfl⟩
 ·go_ret
  exact ⟨ret_bool (leap_d y ‹_›),rfl⟩
theorem spec_leap (y:Int) (w:World):Calls Tryz.prog 194 #[.int .i64 y] w fun e w'=>e=.returned (.bool (leapB y))∧w'=w:=by
 go_enter Tryz.func194,Tryz.ntmps194
 go_wp2
 ·go_ret
  exact ⟨ret_bool (leap_a y ‹_› ‹_›),rfl⟩
 ·go_ret
  exact ⟨ret_bool (leap_b y ‹_› ‹_›),rfl⟩
 ·go_ret
  exact ⟨ret_bool (leap_c y ‹_›),rfl⟩
end DateR
namespace DateR
open DateM
def tab:List Int:=[31,28,31,30,31,30,31,31,30,31,30,31]
def Laid (w:World):Prop:=1<w.heap.size∧∀k:Nat,k<12→w.cell? ⟨1,k,none⟩=some (.int .i64 (tab.getD k 0))
theorem Laid.below {w w':World} (h:Laid w) (hb:Below w.heap.size w w'):Laid w' :=
 ⟨by have:=hb.size;have:=h.1;omega,fun k hk=>by rw [hb.cell (p:=⟨1,k,none⟩) h.1];exact h.2 k hk⟩
theorem bel_drewN {B:Nat} {a w:World} (h:Below B a w) (n:Nat):Below B a (w.drewN n):=⟨h.os,h.tape,h.output,h.size,h.block⟩
theorem Laid.drewN {w:World} (h:Laid w) (n:Nat):Laid (w.drewN n):=⟨by simpa using h.1,fun k hk=>by simpa using h.2 k hk⟩
theorem within_any (n low high:Int) (w:World) :
 Calls Tryz.prog 30 #[.int .i64 n,.int .i64 low,.int .i64 high] w fun e w'=>e=.returned (.bool (decide (low≤n∧n≤high)))∧w'=w:=by
 by_cases h1:low≤n
 ·go_enter Tryz.func30,Tryz.ntmps30
  go_wp2
  go_ret
  exact ⟨ret_bool (by simp [h1]),rfl⟩
 ·go_enter Tryz.func30,Tryz.ntmps30
  go_wp2
  go_ret
  exact ⟨ret_bool (by rw [decide_eq_false (show ¬low≤n by omega)];rfl),rfl⟩
theorem tab_md (y:Int) (k:Nat) (h:k<12) (h2:k=1→leapB y=false):tab.getD k 0=md y ((k:Int)+1):=by
 match k,h,h2 with
 | 0,_,_=>rfl
 | 1,_,h2=>unfold md;rw [h2 rfl];rfl
 | 2,_,_=>rfl
 | 3,_,_=>rfl
 | 4,_,_=>rfl
 | 5,_,_=>rfl
 | 6,_,_=>rfl
 | 7,_,_=>rfl
 | 8,_,_=>rfl
 | 9,_,_=>rfl
 | 10,_,_=>rfl
 | 11,_,_=>rfl
theorem tab_name (w:World) (k:Nat) (hk:k<12) (hL:Laid w):∃X:Int,w.cell? ⟨1,k,none⟩=some (.int .i64 X)∧Hid (X=tab.getD k 0):=⟨_,hL.2 k hk,rfl⟩
theorem md_2 (y:Int):md y 2=if leapB y=true then 29 else 28:=rfl
theorem impl_md_in (y:Int) (k:Nat) (hk:k<12) (y1:1970≤y) (y2:y≤2200) (w:World) (hL:Laid w) :
 Calls Tryz.prog 203 #[.int .i64 y,.int .i64 ((k:Int)+1)] w fun e w'=>e=.returned (.int .i64 (md y ((k:Int)+1)))∧w'=w:=by
 obtain ⟨X,hc,HX⟩:=tab_name w k hk hL
 have h0:=hL.1
 have k1:(1:Int)≤(k:Int)+1:=by omega
 have k2:(k:Int)+1≤12:=by omega
 have HK:=H_ hk
 clear hL
 by_cases e:k=1
 ·subst e
  cases hl:leapB y
  ·have hi:=fun w=>impl_leap y w
   rw [hl] at hi
   have HM:Hid (X=md y 2):=by
    show X=md y 2
    rw [HX.out,md_2,hl];rfl
   clear hl
   go_enter Tryz.func203,Tryz.ntmps203
   go_wp2_with (first|(go_at_call 30;go_in)|(go_at_call 218;refine (hi _).mono ?_;rintro e w' ⟨rfl,rfl⟩))
   go_ret
   exact ⟨ret_int HM.out,rfl⟩
  ·have hi:=fun w=>impl_leap y w
   rw [hl] at hi
   have HM:Hid (29=md y 2):=by
    show 29=md y 2
    rw [md_2,hl];rfl
   clear hl
   go_enter Tryz.func203,Tryz.ntmps203
   go_wp2_with (first|(go_at_call 30;go_in)|(go_at_call 218;refine (hi _).mono ?_;rintro e w' ⟨rfl,rfl⟩))
   go_ret
   exact ⟨ret_int HM.out,rfl⟩
 ·have ne:¬(k:Int)+1=2:=by omega
  have nf:((k:Int)+1==2)=false:=by simpa using ne
  have HM:=H_ (HX.out.trans (tab_md y k hk fun h=>absurd h e))
  clear e hk
  go_enter Tryz.func203,Tryz.ntmps203
  go_wp2_with (first|(go_at_call 30;go_in)|(go_at_call 218;refine (impl_leap y _).mono ?_;rintro e w' ⟨rfl,rfl⟩))
  go_ret
  exact ⟨ret_int HM.out,rfl⟩
theorem md_key (y m:Int) (h:¬(1970≤y∧y≤2200∧1≤m∧m≤12)):(¬1970≤y)∨(1970≤y∧¬y≤2200)∨(1970≤y∧y≤2200∧((¬1≤m)∨(1≤m∧¬m≤12))):=by omega
theorem impl_md_out (y m:Int) (h:¬(1970≤y∧y≤2200∧1≤m∧m≤12)) (w:World) :
 Calls Tryz.prog 203 #[.int .i64 y,.int .i64 m] w fun e w'=>e=.returned (.int .i64 0)∧w'=w:=by
 rcases md_key y m h with h1|⟨h1,h2⟩|⟨h1,h2,h3|⟨h3,h4⟩⟩
 all_goals
  clear h
  go_enter Tryz.func203,Tryz.ntmps203
  go_wp2
  go_ret
  exact ⟨rfl,rfl⟩
theorem impl_md (y m:Int) (w:World) (hL:Laid w) :
 Calls Tryz.prog 203 #[.int .i64 y,.int .i64 m] w fun e w'=>e=.returned (.int .i64 (mdays y m))∧w'=w:=by
 unfold mdays
 by_cases h:1970≤y∧y≤2200∧1≤m∧m≤12
 ·rw [if_pos h]
  obtain ⟨k,rfl⟩:∃k:Nat,m=(k:Int)+1:=⟨(m-1).toNat,by omega⟩
  exact impl_md_in y k (by omega) h.1 h.2.1 w hL
 ·rw [if_neg h]
  exact impl_md_out y m h w
theorem tab_at (k:Nat) (h:k<12):([Value.int IntKind.i64 31,Value.int IntKind.i64 28,Value.int IntKind.i64 31,Value.int IntKind.i64 30,Value.int IntKind.i64 31,Value.int IntKind.i64 30,Value.int IntKind.i64 31,Value.int IntKind.i64 31,Value.int IntKind.i64 30,Value.int IntKind.i64 31,Value.int IntKind.i64 30,Value.int IntKind.i64 31]:List Value)[k]=.int .i64 (tab.getD k 0):=by
 match k,h with
 | 0,_=>rfl
 | 1,_=>rfl
 | 2,_=>rfl
 | 3,_=>rfl
 | 4,_=>rfl
 | 5,_=>rfl
 | 6,_=>rfl
 | 7,_=>rfl
 | 8,_=>rfl
 | 9,_=>rfl
 | 10,_=>rfl
 | 11,_=>rfl
theorem spec_md_in (y:Int) (k:Nat) (hk:k<12) (y1:1970≤y) (y2:y≤2200) (w:World) :
 Calls Tryz.prog 158 #[.int .i64 y,.int .i64 ((k:Int)+1)] w fun e w'=>e=.returned (.int .i64 (md y ((k:Int)+1)))∧Below w.heap.size w w':=by
 have k1:(1:Int)≤(k:Int)+1:=by omega
 have k2:(k:Int)+1≤12:=by omega
 by_cases e:k=1
 ·subst e
  cases hl:leapB y
  ·have hi:=fun w=>spec_leap y w
   rw [hl] at hi
   have HM:Hid (28=md y 2):=by
    show 28=md y 2
    rw [md_2,hl];rfl
   clear hl
   go_enter Tryz.func158,Tryz.ntmps158
   go_wp2_with (first|(go_at_call 193;go_in)|(go_at_call 63;go_in)|(go_at_call 194;refine (hi _).mono ?_;rintro e w' ⟨rfl,rfl⟩))
   go_ret
   exact ⟨ret_int HM.out,(Below.refl _ _).alloc (Nat.le_refl _) _⟩
  ·have hi:=fun w=>spec_leap y w
   rw [hl] at hi
   have HM:Hid (29=md y 2):=by
    show 29=md y 2
    rw [md_2,hl];rfl
   clear hl
   go_enter Tryz.func158,Tryz.ntmps158
   go_wp2_with (first|(go_at_call 193;go_in)|(go_at_call 63;go_in)|(go_at_call 194;refine (hi _).mono ?_;rintro e w' ⟨rfl,rfl⟩))
   go_ret
   exact ⟨ret_int HM.out,Below.refl _ _⟩
 ·have ne:¬(k:Int)+1=2:=by omega
  have nf:((k:Int)+1==2)=false:=by simpa using ne
  have HM:=H_ (tab_md y k hk fun h=>absurd h e)
  have HK:=H_ hk
  clear e
  go_enter Tryz.func158,Tryz.ntmps158
  go_wp2_with (first|(go_at_call 193;go_in)|(go_at_call 63;go_in)|(go_at_call 194;refine (spec_leap y _).mono ?_;rintro e w' ⟨rfl,rfl⟩))
  go_ret
  exact ⟨(congrArg Ending.returned (tab_at k HK.out)).trans (ret_int HM.out),(Below.refl _ _).alloc (Nat.le_refl _) _⟩
theorem spec_md_out (y m:Int) (h:¬(1970≤y∧y≤2200∧1≤m∧m≤12)) (w:World) :
 Calls Tryz.prog 158 #[.int .i64 y,.int .i64 m] w fun e w'=>e=.returned (.int .i64 0)∧w'=w:=by
 rcases md_key y m h with h1|⟨h1,h2⟩|⟨h1,h2,h3|⟨h3,h4⟩⟩
 all_goals
  clear h
  go_enter Tryz.func158,Tryz.ntmps158
  go_wp2
  go_ret
  exact ⟨rfl,rfl⟩
theorem spec_md (y m:Int) (w:World) :
 Calls Tryz.prog 158 #[.int .i64 y,.int .i64 m] w fun e w'=>e=.returned (.int .i64 (mdays y m))∧Below w.heap.size w w':=by
 unfold mdays
 by_cases h:1970≤y∧y≤2200∧1≤m∧m≤12
 ·rw [if_pos h]
  obtain ⟨k,rfl⟩:∃k:Nat,m=(k:Int)+1:=⟨(m-1).toNat,by omega⟩
  exact spec_md_in y k (by omega) h.1 h.2.1 w
 ·rw [if_neg h]
  exact (spec_md_out y m h w).mono fun e w' ⟨h1,h2⟩=>⟨h1,h2 ▸ Below.refl _ _⟩
def date (y m d:Int):Value:=.agg #[.int .i64 y,.int .i64 m,.int .i64 d]
end DateR
namespace DateR
open DateM
theorem impl_right (y m d:Int) (w:World) (hL:Laid w) :
 Calls Tryz.prog 201 #[date y m d] w fun e w'=>e=.returned (.bool (rightB y m d))∧Below w.heap.size w w':=by
 unfold date
 have HI:=H_ (fun w hL=>impl_md y m w hL)
 have HR:Hid (decide (1≤d∧d≤mdays y m)=rightB y m d):=rfl
 generalize mdays y m=X at HI HR
 have HL:=H_ (hL.below ((Below.refl _ _).alloc (Nat.le_refl _) (Obj.cells #[.int .i64 y,.int .i64 m,.int .i64 d] 163)))
 clear hL
 go_enter Tryz.func201,Tryz.ntmps201
 go_wp2
 go_quiet ((first|(go_at_call 203;exact Calls.quiet_of_same (HI.out _ (HL.out.drewN _)))|(go_at_call 30;exact Calls.quiet_of_same (within_any _ _ _ _))))
 go_wp2
 go_ret
 exact ⟨ret_bool HR.out,bel_drewN (al_ _ _) _⟩
theorem right_cut (y m d X:Int) (hX:X=mdays y m):(decide (1970≤y∧y≤2200)=false∧rightB y m d=false)∨(decide (1970≤y∧y≤2200)=true∧decide (1≤m∧m≤12)=false∧rightB y m d=false)∨(decide (1970≤y∧y≤2200)=true∧decide (1≤m∧m≤12)=true∧decide (1≤d∧d≤X)=rightB y m d):=by
 have hr:=right_iff y m d
 by_cases h1:1970≤y∧y≤2200
 ·by_cases h2:1≤m∧m≤12
  ·exact .inr (.inr ⟨decide_eq_true h1,decide_eq_true h2,by rw [hX];rfl⟩)
  ·refine .inr (.inl ⟨decide_eq_true h1,decide_eq_false h2,?_⟩)
   cases h:rightB y m d
   ·rfl
   ·have:=hr.1 h;exact absurd ⟨this.2.2.1,this.2.2.2.1⟩ h2
 ·refine .inl ⟨decide_eq_false h1,?_⟩
  cases h:rightB y m d
  ·rfl
  ·have:=hr.1 h;exact absurd ⟨this.1,this.2.1⟩ h1
theorem is_any (n low high:Int) (w:World) :
 Calls Tryz.prog 63 #[.int .i64 n,.int .i64 low,.int .i64 high] w fun e w'=>e=.returned (.bool (decide (low≤n∧n≤high)))∧w'=w:=by
 by_cases h1:low≤n
 ·go_enter Tryz.func63,Tryz.ntmps63
  go_wp2
  go_ret
  exact ⟨ret_bool (by simp [h1]),rfl⟩
 ·go_enter Tryz.func63,Tryz.ntmps63
  go_wp2
  go_ret
  exact ⟨ret_bool (by rw [decide_eq_false (show ¬low≤n by omega)];rfl),rfl⟩
theorem year_any (n:Int) (w:World) :
 Calls Tryz.prog 193 #[.int .i64 n] w fun e w'=>e=.returned (.bool (decide (1970≤n∧n≤2200)))∧w'=w:=by
 go_enter Tryz.func193,Tryz.ntmps193
 go_wp2_with (go_at_call 63;refine (is_any _ _ _ _).mono ?_;rintro e w' ⟨rfl,rfl⟩)
 go_ret
 exact ⟨ret_bool (by simp),rfl⟩
def Box (w:World) (B:Nat) (y m d:Int) (w':World):Prop:=Below B w w'∧B<w'.heap.size∧w'.cell? ⟨B,0,none⟩=some (.int .i64 y)∧w'.cell? ⟨B,1,none⟩=some (.int .i64 m)∧w'.cell? ⟨B,2,none⟩=some (.int .i64 d)
theorem Box.below {w w1 w2:World} {B:Nat} {y m d:Int} (h:Box w B y m d w1) (hb:Below w1.heap.size w1 w2):Box w B y m d w2 :=
 ⟨h.1.trans (hb.mono (by have:=h.2.1;omega)),by have:=hb.size;have:=h.2.1;omega,by rw [hb.cell (p:=⟨B,0,none⟩) h.2.1];exact h.2.2.1,by rw [hb.cell (p:=⟨B,1,none⟩) h.2.1];exact h.2.2.2.1,by rw [hb.cell (p:=⟨B,2,none⟩) h.2.1];exact h.2.2.2.2⟩
theorem spec_right (y m d:Int) (w:World) :
 Calls Tryz.prog 156 #[date y m d] w fun e w'=>e=.returned (.bool (rightB y m d))∧Below w.heap.size w w':=by
 unfold date
 obtain ⟨X,hX⟩:∃X,X=mdays y m:=⟨_,rfl⟩
 have key:=right_cut y m d X hX
 have HI:=H_ (fun w=>spec_md y m w)
 rw [←hX] at HI
 clear hX
 generalize rightB y m d=r at key ⊢
 have HB0:=H_ (((al_ w (Obj.cells #[.int .i64 y,.int .i64 m,.int .i64 d] 163))).drew)
 have key2:∃q1 q2:Bool,decide (1970≤y∧y≤2200)=q1∧decide (1≤m∧m≤12)=q2∧Hid ((q1=false∧r=false)∨(q1=true∧q2=false∧r=false)∨(q1=true∧q2=true∧decide (1≤d∧d≤X)=r)):=⟨_,_,rfl,rfl,key⟩
 clear key
 obtain ⟨q1,q2,h1,h2,H3⟩:=key2
 cases q1
 ·go_enter Tryz.func156,Tryz.ntmps156
  go_wp2
  go_quiet ((first|(go_at_call 193;exact Calls.quiet_of_same (year_any _ _))|(go_at_call 63;exact Calls.quiet_of_same (is_any _ _ _ _))))
  go_wp2
  go_ret
  exact ⟨ret_bool (by rcases H3.out with h|h|h<;>simp_all),bel_drewN (al_ _ _) _⟩
 cases q2
 ·go_enter Tryz.func156,Tryz.ntmps156
  go_wp2
  go_quiet ((first|(go_at_call 193;exact Calls.quiet_of_same (year_any _ _))|(go_at_call 63;exact Calls.quiet_of_same (is_any _ _ _ _))))
  go_wp2
  go_ret
  exact ⟨ret_bool (by rcases H3.out with h|h|h<;>simp_all),bel_drewN (al_ _ _) _⟩
 ·go_enter Tryz.func156,Tryz.ntmps156
  go_wp2
  go_region_held3 (fun w'=>Below w.heap.size w w'∧w.heap.size<w'.heap.size∧w'.cell? ⟨w.heap.size,0,none⟩=some (.int .i64 y)∧w'.cell? ⟨w.heap.size,1,none⟩=some (.int .i64 m)∧w'.cell? ⟨w.heap.size,2,none⟩=some (.int .i64 d)) (first|assumption|(refine ⟨HB0.out,?_⟩;go_keep;done)|(exact Box.below (w:=w) (B:=w.heap.size) (y:=y) (m:=m) (d:=d) (by assumption) hb))
   (first|(go_at_call 193;refine (year_any _ _).mono ?_;rintro e w' ⟨rfl,rfl⟩)|(go_at_call 63;refine (is_any _ _ _ _).mono ?_;rintro e w' ⟨rfl,rfl⟩)|(go_at_call 158;refine (HI.out _).mono ?_;rintro e w' ⟨rfl,hb⟩))
  go_wp2
  rename_i hS
  go_ret
  exact ⟨ret_bool (by rcases H3.out with h|h|h<;>simp_all),hS.1⟩
end DateR
namespace DateR
open DateM
theorem impl_yd (y:Int) (w:World):Calls Tryz.prog 202 #[.int .i64 y] w fun e w'=>e=.returned (.int .i64 (yd y))∧w'=w:=by
 have hi:=fun w=>impl_leap y w
 unfold yd
 cases hl:leapB y
 all_goals
  rw [hl] at hi
  clear hl
  go_enter Tryz.func202,Tryz.ntmps202
  go_wp2_with (go_at_call 218;refine (hi _).mono ?_;rintro e w' ⟨rfl,rfl⟩)
  go_ret
  exact ⟨rfl,rfl⟩
theorem spec_yd (y:Int) (w:World):Calls Tryz.prog 157 #[.int .i64 y] w fun e w'=>e=.returned (.int .i64 (yd y))∧w'=w:=by
 have hi:=fun w=>spec_leap y w
 unfold yd
 cases hl:leapB y
 all_goals
  rw [hl] at hi
  clear hl
  go_enter Tryz.func157,Tryz.ntmps157
  go_wp2_with (go_at_call 194;refine (hi _).mono ?_;rintro e w' ⟨rfl,rfl⟩)
  go_ret
  exact ⟨rfl,rfl⟩
theorem add_year (D:Int) (k:Nat) (h1:0≤D) (h2:D≤30) (hk:k≤230):wrap64 (D+ys k+yd (1970+(k:Int)))=D+ys (k+1):=by
 have a:=ys_bd k
 have b:=yd_bd (1970+(k:Int))
 rw [ys_succ]
 unfold wrap64
 omega
theorem add_month (E y:Int) (k:Nat) (h1:0≤E) (h2:E≤90000) (hk:k<12) (y1:1970≤y) (y2:y≤2200):wrap64 (E+ms y k+mdays y ((k:Int)+1))=E+ms y (k+1):=by
 have a:=ms_bd y k
 have b:=md_bd y ((k:Int)+1)
 have c:mdays y ((k:Int)+1)=md y ((k:Int)+1):=if_pos (by omega)
 rw [c,ms_succ]
 unfold wrap64
 omega
theorem day_parts (y m d:Int) (h:rightB y m d=true):∃K M:Nat,K≤230∧M≤11∧y-1970=(K:Int)∧m-1=(M:Int)∧1≤d∧d≤31∧Hid (num y m d=d-1+ys K+ms y M)∧1970≤y∧y≤2200∧1≤m∧m≤12:=by
 obtain ⟨y1,y2,m1,m2,d1,d2⟩:=(right_iff y m d).1 h
 have b:=md_bd y m
 refine ⟨(y-1970).toNat,(m-1).toNat,by omega,by omega,by omega,by omega,d1,by omega,rfl,y1,y2,m1,m2⟩
theorem impl_dayof_in (y m d:Int) (w:World) (hL:Laid w) (h:rightB y m d=true) :
 Calls Tryz.prog 171 #[date y m d] w fun e w'=>e=.returned (.int .i64 (num y m d))∧Below w.heap.size w w':=by
 obtain ⟨K,M,hK,hM,eK,eM,d1,d2,HN,y1,y2,m1,m2⟩:=day_parts y m d h
 have hr:=fun w hL=>impl_right y m d w hL
 rw [h] at hr
 have HL0:=H_ (hL.below ((Below.refl _ _).alloc (Nat.le_refl _) (Obj.cells #[.int .i64 y,.int .i64 m,.int .i64 d] 163)))
 have HB0:=H_ (al_ w (Obj.cells #[.int .i64 y,.int .i64 m,.int .i64 d] 163))
 clear h hL
 unfold date at *
 go_enter Tryz.func171,Tryz.ntmps171
 go_wp2_with fail
 refine (hr _ HL0.out).mono ?_
 rintro e w1 ⟨rfl,hb1⟩
 have g0:=hb1.cell (p:=⟨w.heap.size,0,none⟩) (by simp)
 have g1:=hb1.cell (p:=⟨w.heap.size,1,none⟩) (by simp)
 have g2:=hb1.cell (p:=⟨w.heap.size,2,none⟩) (by simp)
 simp [go_sem] at g0 g1 g2
 have HB:=H_ (HB0.out.trans (hb1.mono (by simp)))
 have HL:=H_ (HL0.out.below hb1)
 clear hb1 HB0 HL0
 go_wp2_with fail
 go_loop [3,15] (fun x z=>∃k:Nat,k≤K∧z=.int .i64 k∧x=.int .i64 (d-1+ys k)) (fun _ z=>K-(intOf z).toNat)
 case atStart=>exact ⟨0,by omega,rfl,by simp [ys]⟩
 case round =>
  obtain ⟨k,hk,rfl,rfl⟩:=hrel
  by_cases hlt:k<K
  ·have hs:=H_ (add_year (d-1) k (by omega) (by omega) (by omega))
   have hk2:(k:Int)≤230:=by omega
   go_wp2_with (go_at_call 202;refine (impl_yd _ _).mono ?_;rintro e w' ⟨rfl,rfl⟩)
   go_round
   case rel=>exact ⟨k+1,by omega,by go_num,by rw [hs.out]⟩
   case measure=>simp [intOf];omega
  ·obtain rfl:k=K:=by omega
   obtain ⟨E,hE⟩:∃E,E=d-1+ys k:=⟨_,rfl⟩
   have hE2:0≤E∧E≤90000:=by have:=ys_bd k;omega
   rw [←hE] at HN ⊢
   clear hE
   go_wp2_with fail
   go_loop [3,27] (fun x z=>∃j:Nat,j≤M∧z=.int .i64 j∧x=.int .i64 (E+ms y j)) (fun _ z=>M-(intOf z).toNat)
   case atStart=>exact ⟨0,by omega,rfl,by simp [ms]⟩
   case round =>
    obtain ⟨j,hj,rfl,rfl⟩:=hrel
    by_cases hlt2:j<M
    ·have hs:=H_ (add_month E y j hE2.1 hE2.2 (by omega) y1 y2)
     have hk2:(j:Int)≤11:=by omega
     go_wp2_with (go_at_call 203;refine (impl_md _ _ _ HL.out).mono ?_;rintro e w' ⟨rfl,rfl⟩)
     go_round
     case rel=>exact ⟨j+1,by omega,by go_num,by rw [hs.out]⟩
     case measure=>simp [intOf];omega
    ·obtain rfl:j=M:=by omega
     go_wp2_with fail
     go_ret
     exact ⟨ret_int HN.out.symm,HB.out⟩
theorem spec_dayof_in (y m d:Int) (w:World) (h:rightB y m d=true) :
 Calls Tryz.prog 112 #[date y m d] w fun e w'=>e=.returned (.int .i64 (num y m d))∧Below w.heap.size w w':=by
 obtain ⟨K,M,hK,hM,eK,eM,d1,d2,HN,y1,y2,m1,m2⟩:=day_parts y m d h
 have eY:y=1970+(K:Int):=by omega
 have eM2:m=(M:Int)+1:=by omega
 have hr:=fun w=>spec_right y m d w
 rw [h] at hr
 have HB0:=H_ (al_ w (Obj.cells #[.int .i64 y,.int .i64 m,.int .i64 d] 163))
 clear h eK eM
 subst eY eM2
 unfold date at *
 go_enter Tryz.func112,Tryz.ntmps112
 go_wp2_with fail
 refine (hr _).mono ?_
 rintro e w1 ⟨rfl,hb1⟩
 have g0:=hb1.cell (p:=⟨w.heap.size,0,none⟩) (by simp)
 have g1:=hb1.cell (p:=⟨w.heap.size,1,none⟩) (by simp)
 have g2:=hb1.cell (p:=⟨w.heap.size,2,none⟩) (by simp)
 have hsz:w.heap.size<w1.heap.size:=by have:=hb1.size;simp at this;omega
 simp [go_sem] at g0 g1 g2
 have HB:=H_ (HB0.out.trans (hb1.mono (by simp)))
 clear hb1 HB0
 go_wp2_with fail
 go_loop [3,4] (fun x z=>∃k:Nat,k≤K∧z=.int .i64 (1970+(k:Int))∧x=.int .i64 (d-1+ys k)) (fun _ z=>K+1970-(intOf z).toNat)
 case atStart=>exact ⟨0,by omega,rfl,by simp [ys]⟩
 case round =>
  obtain ⟨k,hk,rfl,rfl⟩:=hrel
  by_cases hlt:k<K
  ·have hs:=H_ (add_year (d-1) k (by omega) (by omega) (by omega))
   have hk2:(k:Int)≤230:=by omega
   have hlt2:(1970:Int)+k<1970+K:=by omega
   go_wp2_with (go_at_call 157;refine (spec_yd _ _).mono ?_;rintro e w' ⟨rfl,rfl⟩)
   go_round
   case rel=>exact ⟨k+1,by omega,by go_num,by rw [hs.out]⟩
   case measure=>simp [intOf];omega
  ·obtain rfl:k=K:=by omega
   obtain ⟨E,hE⟩:∃E,E=d-1+ys k:=⟨_,rfl⟩
   have hE2:0≤E∧E≤90000:=by have:=ys_bd k;omega
   rw [←hE] at HN ⊢
   clear hE
   go_wp2_with fail
   go_loopw [3,5] (fun x z wr=>∃j:Nat,j≤M∧z=.int .i64 ((j:Int)+1)∧x=.int .i64 (E+ms (1970+(k:Int)) j)∧Hid (Below w1.heap.size w1 wr)) (fun _ z _=>M+1-(intOf z).toNat)
   case atStart=>exact ⟨0,by omega,rfl,by simp [ms],Below.refl _ _⟩
   case round =>
    obtain ⟨j,hj,rfl,rfl,HR⟩:=hrel
    have q0:=(HR.out.cell (p:=⟨w.heap.size,0,none⟩) hsz).trans g0
    have q1:=(HR.out.cell (p:=⟨w.heap.size,1,none⟩) hsz).trans g1
    by_cases hlt2:j<M
    ·have hs:=H_ (add_month E (1970+(k:Int)) j hE2.1 hE2.2 (by omega) y1 y2)
     have hk2:(j:Int)+1≤12:=by omega
     have hlt3:(j:Int)+1<(M:Int)+1:=by omega
     go_wp2_with (go_at_call 158;refine (spec_md _ _ _).mono ?_;rintro e w' ⟨rfl,hb⟩)
     have HR2:=HT_ HR hb
     clear hb
     go_roundw
     case rel=>exact ⟨j+1,by omega,by go_num,by rw [hs.out],HR2⟩
     case measure=>simp [intOf];omega
    ·obtain rfl:j=M:=by omega
     go_wp2_with fail
     go_ret
     exact ⟨ret_int HN.out.symm,HB.out.trans (HR.out.mono HB.out.size)⟩
end DateR
end Go.Proofs.YtnceeaccbcfopaaGreatDoor
