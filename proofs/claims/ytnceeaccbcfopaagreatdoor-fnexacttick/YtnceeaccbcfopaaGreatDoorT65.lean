/-
  What marking a list of documents promises, put together of what marking their own lists promises. The conditions: at most 1048576 of them, the marks below 5300001.
-/
import Derived.Test.YtnceeaccbcfopaaGreatDoorT64
namespace Go.Proofs.YtnceeaccbcfopaaGreatDoor
open Go.ChangeShapes Go.WideShapes Go.ChangeAt Go.RowKit
set_option linter.unusedVariables false
namespace LedR
open RowG ChG
open EvtR (Pt)
open MarkR (mk mT mark_any)
def vC (Kx:Nat→Nat) (aa:Nat→Option Addr) (al ac:Nat→Nat) (o:Nat):Option Value:=([.string (mT (Kx (o / 4))),.int .i64 ((Kx (o / 4):Int)+1),.int .i64 ((Kx (o / 4):Int)+1+1),.slice (aa (o / 4)) (al (o / 4)) (ac (o / 4))]:List Value)[o % 4]?
theorem vC_at (Kx:Nat→Nat) (aa:Nat→Option Addr) (al ac:Nat→Nat) (i x:Nat) (hx:x<4):vC Kx aa al ac (i*4+x)=([.string (mT (Kx i)),.int .i64 ((Kx i:Int)+1),.int .i64 ((Kx i:Int)+1+1),.slice (aa i) (al i) (ac i)]:List Value)[x]?:=by
 have e1:(i*4+x) / 4=i:=by omega
 have e2:(i*4+x) % 4=x:=by omega
 unfold vC
 rw [e1,e2]
theorem vst {f:Nat→Option Value} {g m j:Nat} {w0 w:World} (hp:Pt g m w) (hm:Wr f j g w) (hg:w0.grownBy w (some g)) (hj:j<m) (v:Value) (hv:f j=some v) :
 Pt g m (w.setCell ⟨g,j,none⟩ v)∧Wr f (j+1) g (w.setCell ⟨g,j,none⟩ v)∧w0.grownBy (w.setCell ⟨g,j,none⟩ v) (some g) :=
 ⟨hp.set _ _,hm.more hp hj v hv,SeenR.kgt hg (grown_set _ g _ _)⟩
theorem vnx {f:Nat→Option Value} {j g:Nat} {w:World} {v:Value} (h:Wr f j g w) (hc:w.cell? ⟨g,j,none⟩=some v) (hf:f j=some v):Wr f (j+1) g w:=fun o ho=>by
 by_cases e:o=j
 ·rw [e,hc,hf]
 ·exact h o (by omega)
structure Vk (g n i:Nat) (Kx:Nat→Nat) (aa:Nat→Option Addr) (al ac:Nat→Nat) (Ta:Nat→Nat→Prop) (W wr:World):Prop where
 pt:Pt g (n*4) wr
 ce:Wr (vC Kx aa al ac) (i*4) g wr
 cl:∀j,i≤j→j<n→wr.cell? ⟨g,j*4+3,none⟩=some (.slice (aa j) (al j) (ac j))
 hd:∀j,j<i→Hd 97 (.slice (aa j) (al j) (ac j)) (Kx j+3) (Kx (j+1)) (Ta j) wr
 chg:Chg (fun b=>b=g∨∃j,j<i∧(Ta j b)) W wr
structure Vh (g n:Nat) (Kx:Nat→Nat) (aa:Nat→Option Addr) (al ac:Nat→Nat) (Ta:Nat→Nat→Prop) (w:World):Prop where
 pt:Pt g (n*4) w
 cl:∀j,j<n→w.cell? ⟨g,j*4+3,none⟩=some (.slice (aa j) (al j) (ac j))
 kx:∀j,j≤n→1≤Kx j∧Kx j≤5300001
 ma:∀j,j<n→MkH 92 97 (.slice (aa j) (al j) (ac j)) (Kx j+3) (Kx (j+1)) (Ta j) w
 la:∀j,j<n→al j≤1048576
 og:∀j,j<n→∀b,(Ta j b)→b≠g
 ap:∀i j,i<n→j<n→i≠j→∀b,(Ta i b)→(Ta j b)→False
set_option maxRecDepth 100000 in
set_option maxHeartbeats 8000000 in
theorem v_mark (g n cap:Nat) (Kx:Nat→Nat) (aa:Nat→Option Addr) (al ac:Nat→Nat) (Ta:Nat→Nat→Prop) (w W:World) (S:Nat→Prop) (hn:n≤1048576) (h:Vh g n Kx aa al ac Ta w) (hc:Chg S w W) (hS:∀b,S b→¬(b=g∨∃j,j<n∧(Ta j b))) :
 Calls Tryz.prog 42 #[.slice (some ⟨g,0,none⟩) n cap,.int .i64 (Kx 0:Nat)] W fun e w'=>e=.returned (.int .i64 (Kx n:Nat))∧Vk g n n Kx aa al ac Ta W w':=by
 have HT:Hid (∀(z:Int) (K:Nat),z=K→1≤K→K<100000000→∀w,Calls Tryz.prog 89 #[.int .i64 z] w fun e w'=>e=.returned (.string (mT K))∧Below w.heap.size w w'):=H_ (fun z K e h0 h w=>by subst e;exact mark_any K h0 h w)
 have HH:=H_ h
 have HC:=H_ hc
 have HS:=H_ hS
 have HV0:Hid (Vk g n 0 Kx aa al ac Ta W W):=H_ ⟨hc.pt h.pt (fun q=>hS g q (.inl rfl)),fun o ho=>absurd ho (by omega),fun j _ hj=>by
  have eb:=hc.block g h.pt.lt (fun q=>hS g q (.inl rfl))
  have c:=h.cl j hj
  exact (World.cell?_of_block (a:=⟨g,j*4+3,none⟩) eb).trans c,fun j hj=>absurd hj (by omega),Chg.refl _ _⟩
 clear h hc hS
 go_enter Tryz.func42,Tryz.ntmps42
 go_wp2_with fail
 go_loopw [5,1] (fun x z wr=>∃(i:Nat),x=.int .i64 (i:Int)∧z=.int .i64 ((Kx i:Nat):Int)∧i≤n∧Hid (Vk g n i Kx aa al ac Ta W wr)) (fun x _ _=>n-(intOf x).toNat)
 case atStart=>exact ⟨0,rfl,rfl,by omega,HV0⟩
 case round =>
  clear HV0
  obtain ⟨i,rfl,rfl,hi,HV⟩:=hrel
  by_cases hin:i=n
  ·subst hin
   go_wp2_with fail
   go_ret
   exact ⟨rfl,HV.out⟩
  ·have h1:(i:Int)<(n:Int):=by omega
   have hil:i<n:=by omega
   obtain ⟨k0,k1⟩:=HH.out.kx i (by omega)
   have k2:=(HH.out.kx (i+1) (by omega)).2
   have hla:=HH.out.la i hil
   have HP:=H_ HV.out.pt
   have HM:=H_ HV.out.ce
   have HCL:=H_ (HV.out.cl i (Nat.le_refl _) hil)
   have HCJ:Hid (∀j,i+1≤j→j<n→wr.cell? ⟨g,j*4+3,none⟩=some (.slice (aa j) (al j) (ac j))):=H_ (fun j hj hjn=>HV.out.cl j (by omega) hjn)
   have HG:Hid (wr.grownBy wr (some g)):=H_ ⟨rfl,rfl,rfl,Nat.le_refl _,fun _ _ _=>rfl⟩
   have HVA:=H_ (fun x (hx:x<4)=>vC_at Kx aa al ac i x hx)
   obtain ⟨K,hKi⟩:∃K,K=Kx i:=⟨_,rfl⟩
   have HKi:=H_ hKi
   rw [←hKi] at HVA k0 k1
   rw [show ((Kx i:Nat):Int)=(K:Int) by rw [hKi]]
   clear hKi
   go_wp2_with fail
   refine (HT.out _ (K) (by push_cast;omega) (by omega) (by omega) _).mono ?_
   rintro e w1 ⟨rfl,hb⟩
   replace HG:=H_ (SeenR.kgt HG.out (SeenR.kgr hb _))
   replace HM:=H_ (HM.out.below HP.out hb)
   replace HCL:Hid (w1.cell? ⟨g,i*4+3,none⟩=some (.slice (aa i) (al i) (ac i))):=H_ (by
    have c:=fun o=>hb.cell (p:=⟨g,o,none⟩) HP.out.lt
    exact (c _).trans HCL.out)
   replace HCJ:Hid (∀j,i+1≤j→j<n→w1.cell? ⟨g,j*4+3,none⟩=some (.slice (aa j) (al j) (ac j))):=H_ (fun j hj hjn=>by
    have c:=HCJ.out j hj hjn
    have d:=fun o=>hb.cell (p:=⟨g,o,none⟩) HP.out.lt
    exact (d _).trans c)
   replace HP:=H_ (HP.out.below hb)
   clear hb
   obtain ⟨v0,c0⟩:=HP.out.has (i*4) (by omega)
   have f0:=HP.out.free (i*4) (by omega)
   obtain ⟨v1,c1⟩:=HP.out.has (i*4+1) (by omega)
   have f1:=HP.out.free (i*4+1) (by omega)
   obtain ⟨v2,c2⟩:=HP.out.has (i*4+2) (by omega)
   have f2:=HP.out.free (i*4+2) (by omega)
   have HS0:=H_ (vst (j:=i*4) HP.out HM.out HG.out (by omega) (.string (mT (K))) (HVA.out 0 (by omega)))
   replace HP:=H_ HS0.out.1
   replace HM:=H_ HS0.out.2.1
   replace HG:=H_ HS0.out.2.2
   clear HS0
   have HS1:=H_ (vst (j:=i*4+1) HP.out HM.out HG.out (by omega) (.int .i64 ((K:Int)+1)) (HVA.out 1 (by omega)))
   replace HP:=H_ HS1.out.1
   replace HM:=H_ HS1.out.2.1
   replace HG:=H_ HS1.out.2.2
   clear HS1
   have HS2:=H_ (vst (j:=i*4+2) HP.out HM.out HG.out (by omega) (.int .i64 ((K:Int)+1+1)) (HVA.out 2 (by omega)))
   replace HP:=H_ HS2.out.1
   replace HM:=H_ HS2.out.2.1
   replace HG:=H_ HS2.out.2.2
   clear HS2
   obtain ⟨W1,hW1⟩:∃z,z=(((w1.setCell ⟨g,i*4,none⟩ (.string (mT (K)))).setCell ⟨g,i*4+1,none⟩ (.int .i64 ((K:Int)+1))).setCell ⟨g,i*4+2,none⟩ (.int .i64 ((K:Int)+1+1))):=⟨_,rfl⟩
   rw [←hW1] at HP HM HG
   replace HCL:Hid (W1.cell? ⟨g,i*4+3,none⟩=some (.slice (aa i) (al i) (ac i))):=H_ (by
    have c:=HCL.out
    rw [hW1]
    exact by rw [EvtR.cell_far _ _ (by omega)];rw [EvtR.cell_far _ _ (by omega)];rw [EvtR.cell_far _ _ (by omega)];exact c)
   replace HCJ:Hid (∀j,i+1≤j→j<n→W1.cell? ⟨g,j*4+3,none⟩=some (.slice (aa j) (al j) (ac j))):=H_ (fun j hj hjn=>by
    have c:=HCJ.out j hj hjn
    rw [hW1]
    exact by rw [EvtR.cell_far _ _ (by omega)];rw [EvtR.cell_far _ _ (by omega)];rw [EvtR.cell_far _ _ (by omega)];exact c)
   have HW1:=H_ hW1
   clear hW1
   have q0:=HCL.out
   have hq:g<W1.heap.size:=HP.out.lt
   have q0':w1.cell? ⟨g,i*4+3,none⟩=some (.slice (aa i) (al i) (ac i)):=by
    have q:=q0
    rw [HW1.out] at q
    rw [EvtR.cell_far _ _ (by omega)] at q;rw [EvtR.cell_far _ _ (by omega)] at q;rw [EvtR.cell_far _ _ (by omega)] at q;exact q
   clear q0 hq
   go_wp2_with fail
   rw [←HW1.out]
   clear HW1 q0'
   clear c0 f0 c1 f1 c2 f2
   have HY:Hid (Chg (fun b=>S b∨((b=g∨∃j,j<i∧(Ta j b))∨b=g)) w W1):=H_ (HC.out.join (HV.out.chg.join ((Chg.refl _ _).grown HG.out rfl)))
   have HX:Hid (Chg (fun b=>b=g) wr W1):=H_ ((Chg.refl _ _).grown HG.out rfl)
   have HMK:Hid (∀z:Int,z=((K+3:Nat):Int)→Calls Tryz.prog 92 #[.slice (aa i) (al i) (ac i),.int .i64 z] W1 fun e w'=>e=.returned (.int .i64 ((Kx (i+1):Nat):Int))∧Chg (Ta i) W1 w'∧Hd 97 (.slice (aa i) (al i) (ac i)) (Kx i+3) (Kx (i+1)) (Ta i) w'):=H_ (fun z hz=>by
    subst hz
    rw [HKi.out]
    refine HH.out.ma i hil _ _ HY.out ?_
    rintro b (q|(q|⟨j,hj,q⟩)|q) q2
    ·exact HS.out b q (.inr ⟨i,hil,q2⟩)
    ·exact HH.out.og i hil b (q2) q
    ·exact HH.out.ap j i (by omega) hil (by omega) b q (q2)
    ·exact HH.out.og i hil b (q2) q)
   refine (HMK.out _ (by first|rfl|(push_cast;omega))).mono ?_
   rintro e y0 ⟨rfl,hc,hh⟩
   have hng:¬Ta i g:=fun q=>HH.out.og i hil g (q) rfl
   have eb:=hc.block g HP.out.lt hng
   replace HM:=H_ (wr_blk HM.out eb)
   replace HCL:Hid (y0.cell? ⟨g,i*4+3,none⟩=some (.slice (aa i) (al i) (ac i))):=H_ (by
    have c:=fun o=>World.cell?_of_block (a:=⟨g,o,none⟩) eb
    exact (c _).trans HCL.out)
   replace HCJ:Hid (∀j,i+1≤j→j<n→y0.cell? ⟨g,j*4+3,none⟩=some (.slice (aa j) (al j) (ac j))):=H_ (fun j hj hjn=>by
    have c:=HCJ.out j hj hjn
    have d:=fun o=>World.cell?_of_block (a:=⟨g,o,none⟩) eb
    exact (d _).trans c)
   replace HP:=H_ (hc.pt HP.out hng)
   replace HY:=H_ (HY.out.join hc)
   replace HX:=H_ (HX.out.join hc)
   have HDa:=H_ hh
   clear hc hh hng eb HMK
   have HVN:Hid (Vk g n (i+1) Kx aa al ac Ta W y0):=H_ (by
    have hx:=HX.out
    have hm:=HM.out
    refine ⟨HP.out,?_,?_,?_,?_⟩
    ·rw [show (i+1)*4=i*4+3+1 by omega]
     exact (vnx hm HCL.out ((HVA.out 3 (by omega)).trans rfl))
    ·intro j hj hjn
     exact HCJ.out j hj hjn
    ·intro j hj
     by_cases e:j=i
     ·subst e
      exact HDa.out
     ·have h:=HV.out.hd j (by omega)
      exact h.chg hx (fun b q0 q2=>by
       rcases q0 with (rfl|q)
       ·exact HH.out.og j (by omega) _ (q2) rfl
       ·exact HH.out.ap i j hil (by omega) (by omega) b (q) (q2))
    ·refine (HV.out.chg.wide (fun b q=>?_)).trans (hx.wide (fun b q=>?_))
     ·rcases q with q|⟨j,hj,q⟩
      ·exact .inl q
      ·exact .inr ⟨j,by omega,q⟩
     ·rcases q with q|q
      ·exact .inl q
      ·exact .inr ⟨i,by omega,q⟩)
   clear HY HX HM HP HCL HCJ HDa
   go_wp2_with fail
   go_roundw
   case rel=>exact ⟨i+1,by go_num,rfl,by omega,HVN⟩
   case measure=>simp [intOf];omega
def vBx (w:World) (g o:Nat) (u0 u1 u2 u3:Value) (w':World):Prop:=Below w.heap.size w w'∧g<w'.heap.size∧w'.cell? ⟨g,o,none⟩=some u0∧w'.cell? ⟨g,o+1,none⟩=some u1∧w'.cell? ⟨g,o+2,none⟩=some u2∧w'.cell? ⟨g,o+3,none⟩=some u3
theorem vBx.below {w w1 w2:World} {g o:Nat} {u0 u1 u2 u3:Value} (h:vBx w g o u0 u1 u2 u3 w1) (hb:Below w1.heap.size w1 w2):vBx w g o u0 u1 u2 u3 w2:=by
 obtain ⟨h0,hl,c0,c1,c2,c3⟩:=h
 have c:=fun x=>hb.cell (p:=⟨g,x,none⟩) hl
 exact ⟨h0.trans (hb.mono h0.size),by have:=hb.size;omega,(c _).trans c0,(c _).trans c1,(c _).trans c2,(c _).trans c3⟩
theorem vBx.drew {w w1:World} {g o:Nat} {u0 u1 u2 u3:Value} (h:vBx w g o u0 u1 u2 u3 w1):vBx w g o u0 u1 u2 u3 w1.drew:=⟨h.1.drew,h.2⟩
set_option maxRecDepth 100000 in
set_option maxHeartbeats 8000000 in
theorem v_held (g n cap:Nat) (Kx:Nat→Nat) (aa:Nat→Option Addr) (al ac:Nat→Nat) (Ta:Nat→Nat→Prop) (w W V Y:World) (S:Nat→Prop) (hn:n≤1048576) (h:Vh g n Kx aa al ac Ta w) (hv:Vk g n n Kx aa al ac Ta W V) (hc:Chg S V Y) (hS:∀b,S b→¬(b=g∨∃j,j<n∧(Ta j b))) :
 Calls Tryz.prog 44 #[.slice (some ⟨g,0,none⟩) n cap,.int .i64 (Kx 0:Nat)] Y fun e w'=>e=.returned (.int .i64 (Kx n:Nat))∧Below Y.heap.size Y w':=by
 have HT:Hid (∀(z:Int) (K:Nat),z=K→1≤K→K<100000000→∀w,Calls Tryz.prog 89 #[.int .i64 z] w fun e w'=>e=.returned (.string (mT K))∧Below w.heap.size w w'):=H_ (fun z K e h0 h w=>by subst e;exact mark_any K h0 h w)
 have HH:=H_ h
 have HM:Hid (g<Y.heap.size∧Wr (vC Kx aa al ac) (n*4) g Y):=H_ ⟨Nat.lt_of_lt_of_le hv.pt.lt hc.size,wr_blk hv.ce (hc.block g hv.pt.lt (fun q=>hS g q (.inl rfl)))⟩
 have HD:Hid (∀j,j<n→Hd 97 (.slice (aa j) (al j) (ac j)) (Kx j+3) (Kx (j+1)) (Ta j) Y):=H_ (fun j hj=>by
  have h:=hv.hd j hj
  exact h.chg hc (fun b q q2=>hS b q (.inr ⟨j,hj,q2⟩)))
 clear h hv hc hS
 go_enter Tryz.func44,Tryz.ntmps44
 go_wp2_with fail
 go_loopw [5,1] (fun x z wr=>∃(i:Nat),x=.int .i64 (i:Int)∧z=.int .i64 ((Kx i:Nat):Int)∧i≤n∧Hid (Below Y.heap.size Y wr)) (fun x _ _=>n-(intOf x).toNat)
 case atStart=>exact ⟨0,rfl,rfl,by omega,H_ (Below.refl _ _)⟩
 case round =>
  obtain ⟨i,rfl,rfl,hi,HB⟩:=hrel
  by_cases hin:i=n
  ·subst hin
   go_wp2_with fail
   go_ret
   exact ⟨rfl,HB.out⟩
  ·have h1:(i:Int)<(n:Int):=by omega
   have hil:i<n:=by omega
   obtain ⟨k0,k1⟩:=HH.out.kx i (by omega)
   have k2:=(HH.out.kx (i+1) (by omega)).2
   have hla:=HH.out.la i hil
   have HDI:=H_ (HD.out i hil)
   have HVA:=H_ (fun x (hx:x<4)=>vC_at Kx aa al ac i x hx)
   obtain ⟨K,hKi⟩:∃K,K=Kx i:=⟨_,rfl⟩
   rw [←hKi] at HVA k0 k1 HDI
   rw [show ((Kx i:Nat):Int)=(K:Int) by rw [hKi]]
   have HR:Hid (∀x,x<4→wr.cell? ⟨g,i*4+x,none⟩=vC Kx aa al ac (i*4+x)):=H_ (fun x hx=>(HB.out.cell (p:=⟨g,i*4+x,none⟩) HM.out.1).trans (HM.out.2 (i*4+x) (by omega)))
   have hgl:g<wr.heap.size:=by have:=HB.out.size;have:=HM.out.1;omega
   clear hKi
   have q0:wr.cell? ⟨g,i*4,none⟩=some (.string (mT (K))):=(HR.out 0 (by omega)).trans (HVA.out 0 (by omega))
   have q1:wr.cell? ⟨g,i*4+1,none⟩=some (.int .i64 ((K:Int)+1)):=(HR.out 1 (by omega)).trans (HVA.out 1 (by omega))
   have q2:wr.cell? ⟨g,i*4+2,none⟩=some (.int .i64 ((K:Int)+1+1)):=(HR.out 2 (by omega)).trans (HVA.out 2 (by omega))
   have q3:wr.cell? ⟨g,i*4+3,none⟩=some (.slice (aa i) (al i) (ac i)):=(HR.out 3 (by omega)).trans (HVA.out 3 (by omega))
   have HT0:=H_ (fun z (hz:z=((K:Nat):Int)) w=>HT.out z (K) hz (by omega) (by omega) w)
   clear HR HVA
   generalize mT K=X0 at *
   have HS0:Hid (vBx Y g (i*4) (.string X0) (.int .i64 ((K:Int)+1)) (.int .i64 ((K:Int)+1+1)) (.slice (aa i) (al i) (ac i)) wr):=H_ ⟨HB.out,hgl,q0,q1,q2,q3⟩
   have HS1:=H_ HS0.out.drew
   go_wp2_with fail
   go_region_held3 (fun w'=>Below Y.heap.size Y w'∧g<w'.heap.size∧w'.cell? ⟨g,i*4,none⟩=some (.string X0)∧w'.cell? ⟨g,i*4+1,none⟩=some (.int .i64 ((K:Int)+1))∧w'.cell? ⟨g,i*4+2,none⟩=some (.int .i64 ((K:Int)+1+1))∧w'.cell? ⟨g,i*4+3,none⟩=some (.slice (aa i) (al i) (ac i))) (first|assumption|(exact HS0.out)|(exact HS1.out)|(exact vBx.below (w:=Y) (g:=g) (o:=i*4) (u0:=.string X0) (u1:=.int .i64 ((K:Int)+1)) (u2:=.int .i64 ((K:Int)+1+1)) (u3:=.slice (aa i) (al i) (ac i)) (by assumption) hb))
    (first|(go_at_call 89;refine (HT0.out _ (by first|rfl|(push_cast;omega)) _).mono ?_;rintro e w' ⟨rfl,hb⟩))
   rename_i hS
   replace HS0:Hid (vBx Y g (i*4) (.string X0) (.int .i64 ((K:Int)+1)) (.int .i64 ((K:Int)+1+1)) (.slice (aa i) (al i) (ac i)) _):=H_ hS
   clear HS1 q0 q1 q2 q3 hgl
   obtain ⟨hB0,hgl,q0,q1,q2,q3⟩:=hS
   clear hB0
   replace HB:=H_ HS0.out.1
   have HMK:Hid (∀(z:Int) W,z=((K+3:Nat):Int)→Below Y.heap.size Y W→Calls Tryz.prog 97 #[.slice (aa i) (al i) (ac i),.int .i64 z] W fun e w3=>e=.returned (.int .i64 ((Kx (i+1):Nat):Int))∧Below W.heap.size W w3):=H_ (fun z W hz hW=>by
    subst hz
    exact HDI.out (fun _=>False) W (Chg.of_below hW) (fun _ q=>q.elim))
   have hkn:¬((Kx (i+1):Nat):Int)<0:=by omega
   go_wp2_with fail
   refine (HMK.out _ _ (by first|rfl|(push_cast;omega)) HB.out).mono ?_
   rintro e z0 ⟨rfl,hb⟩
   replace HB:=H_ (HB.out.trans (hb.mono HB.out.size))
   replace HS0:=H_ (HS0.out.below hb)
   clear hb HMK hgl q0 q1 q2 q3
   go_wp2_with fail
   go_roundw
   case rel=>exact ⟨i+1,by go_num,rfl,by omega,HB⟩
   case measure=>simp [intOf];omega
theorem mkh_dcs_in (g n cap:Nat) (Kx:Nat→Nat) (aa:Nat→Option Addr) (al ac:Nat→Nat) (Ta:Nat→Nat→Prop) (w:World) (hn:n≤1048576) (h:Vh g n Kx aa al ac Ta w) :
 MkH 42 44 (.slice (some ⟨g,0,none⟩) n cap) (Kx 0) (Kx n) (fun b=>b=g∨∃j,j<n∧(Ta j b)) w:=by
 intro S W hc hS
 refine (v_mark g n cap Kx aa al ac Ta w W S hn h hc hS).mono ?_
 rintro e w' ⟨rfl,hv⟩
 exact ⟨rfl,hv.chg,fun S2 Y hc2 hS2=>v_held g n cap Kx aa al ac Ta w W w' Y S2 hn h hv hc2 hS2⟩
end LedR
end Go.Proofs.YtnceeaccbcfopaaGreatDoor
