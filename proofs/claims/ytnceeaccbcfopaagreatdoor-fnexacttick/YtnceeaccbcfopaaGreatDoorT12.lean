/-
  What marking a list of windows promises, put together of what marking their own lists promises.
  The law's own marks in a list of lines: written, and found again.
  Sizes of lists of lines, and the law's own marks in them, from any number on.
  Marks upon a list of lines, from any number on, and their reading.
  The conditions stand in what each theorem says.
-/
import Derived.Deep.RegionHeld3
import Derived.Test.YtnceeaccbcfopaaGreatDoorT11
set_option maxRecDepth 100000
set_option maxHeartbeats 16000000
namespace Go.Proofs.YtnceeaccbcfopaaGreatDoor
open Go.ChangeShapes Go.WideShapes Go.ChangeAt Go.RowKit
set_option linter.unusedVariables false
namespace WinR
open RowG ChG
open EvtR (Pt)
open MarkR (mk mT mark_any)
def vC (Kx:Nat→Nat) (aa:Nat→Option Addr) (al ac:Nat→Nat) (ba:Nat→Option Addr) (bl bc:Nat→Nat) (o:Nat):Option Value:=([.string (mT (Kx (o / 8))),.string (mT (Kx (o / 8)+1)),.int .i64 ((Kx (o / 8):Int)+1+1),.int .i64 ((Kx (o / 8):Int)+1+1+1),.int .i64 ((Kx (o / 8):Int)+1+1+1+1),.int .i64 ((Kx (o / 8):Int)+1+1+1+1+1),.slice (aa (o / 8)) (al (o / 8)) (ac (o / 8)),.slice (ba (o / 8)) (bl (o / 8)) (bc (o / 8))]:List Value)[o % 8]?
theorem vC_at (Kx:Nat→Nat) (aa:Nat→Option Addr) (al ac:Nat→Nat) (ba:Nat→Option Addr) (bl bc:Nat→Nat) (i x:Nat) (hx:x<8):vC Kx aa al ac ba bl bc (i*8+x)=([.string (mT (Kx i)),.string (mT (Kx i+1)),.int .i64 ((Kx i:Int)+1+1),.int .i64 ((Kx i:Int)+1+1+1),.int .i64 ((Kx i:Int)+1+1+1+1),.int .i64 ((Kx i:Int)+1+1+1+1+1),.slice (aa i) (al i) (ac i),.slice (ba i) (bl i) (bc i)]:List Value)[x]?:=by
 have e1:(i*8+x) / 8=i:=by omega
 have e2:(i*8+x) % 8=x:=by omega
 unfold vC
 rw [e1,e2]
theorem vst {f:Nat→Option Value} {g m j:Nat} {w0 w:World} (hp:Pt g m w) (hm:Wr f j g w) (hg:w0.grownBy w (some g)) (hj:j<m) (v:Value) (hv:f j=some v) :
 Pt g m (w.setCell ⟨g,j,none⟩ v)∧Wr f (j+1) g (w.setCell ⟨g,j,none⟩ v)∧w0.grownBy (w.setCell ⟨g,j,none⟩ v) (some g) :=
 ⟨hp.set _ _,hm.more hp hj v hv,SeenR.kgt hg (grown_set _ g _ _)⟩
theorem vnx {f:Nat→Option Value} {j g:Nat} {w:World} {v:Value} (h:Wr f j g w) (hc:w.cell? ⟨g,j,none⟩=some v) (hf:f j=some v):Wr f (j+1) g w:=fun o ho=>by
 by_cases e:o=j
 ·rw [e,hc,hf]
 ·exact h o (by omega)
structure Vk (g n i:Nat) (Kx Ky:Nat→Nat) (aa:Nat→Option Addr) (al ac:Nat→Nat) (ba:Nat→Option Addr) (bl bc:Nat→Nat) (Ta Tb:Nat→Nat→Prop) (W wr:World):Prop where
 pt:Pt g (n*8) wr
 ce:Wr (vC Kx aa al ac ba bl bc) (i*8) g wr
 cl:∀j,i≤j→j<n→wr.cell? ⟨g,j*8+6,none⟩=some (.slice (aa j) (al j) (ac j))∧wr.cell? ⟨g,j*8+7,none⟩=some (.slice (ba j) (bl j) (bc j))
 hd:∀j,j<i→Hd 147 (.slice (aa j) (al j) (ac j)) (Kx j+6) (Ky j) (Ta j) wr∧Hd 148 (.slice (ba j) (bl j) (bc j)) (Ky j) (Kx (j+1)) (Tb j) wr
 chg:Chg (fun b=>b=g∨∃j,j<i∧(Ta j b∨Tb j b)) W wr
structure Vh (g n:Nat) (Kx Ky:Nat→Nat) (aa:Nat→Option Addr) (al ac:Nat→Nat) (ba:Nat→Option Addr) (bl bc:Nat→Nat) (Ta Tb:Nat→Nat→Prop) (w:World):Prop where
 pt:Pt g (n*8) w
 cl:∀j,j<n→w.cell? ⟨g,j*8+6,none⟩=some (.slice (aa j) (al j) (ac j))∧w.cell? ⟨g,j*8+7,none⟩=some (.slice (ba j) (bl j) (bc j))
 kx:∀j,j≤n→1≤Kx j∧Kx j≤5300001
 ma:∀j,j<n→MkH 90 147 (.slice (aa j) (al j) (ac j)) (Kx j+6) (Ky j) (Ta j) w
 la:∀j,j<n→al j≤1048576
 mb:∀j,j<n→MkH 91 148 (.slice (ba j) (bl j) (bc j)) (Ky j) (Kx (j+1)) (Tb j) w
 lb:∀j,j<n→bl j≤1048576
 og:∀j,j<n→∀b,(Ta j b∨Tb j b)→b≠g
 ap:∀i j,i<n→j<n→i≠j→∀b,(Ta i b∨Tb i b)→(Ta j b∨Tb j b)→False
 ab:∀j,j<n→∀b,Ta j b→Tb j b→False
theorem v_mark (g n cap:Nat) (Kx Ky:Nat→Nat) (aa:Nat→Option Addr) (al ac:Nat→Nat) (ba:Nat→Option Addr) (bl bc:Nat→Nat) (Ta Tb:Nat→Nat→Prop) (w W:World) (S:Nat→Prop) (hn:n≤1048576) (h:Vh g n Kx Ky aa al ac ba bl bc Ta Tb w) (hc:Chg S w W) (hS:∀b,S b→¬(b=g∨∃j,j<n∧(Ta j b∨Tb j b))) :
 Calls Tryz.prog 41 #[.slice (some ⟨g,0,none⟩) n cap,.int .i64 (Kx 0:Nat)] W fun e w'=>e=.returned (.int .i64 (Kx n:Nat))∧Vk g n n Kx Ky aa al ac ba bl bc Ta Tb W w':=by
 have HT:Hid (∀(z:Int) (K:Nat),z=K→1≤K→K<100000000→∀w,Calls Tryz.prog 89 #[.int .i64 z] w fun e w'=>e=.returned (.string (mT K))∧Below w.heap.size w w'):=H_ (fun z K e h0 h w=>by subst e;exact mark_any K h0 h w)
 have HH:=H_ h
 have HC:=H_ hc
 have HS:=H_ hS
 have HV0:Hid (Vk g n 0 Kx Ky aa al ac ba bl bc Ta Tb W W):=H_ ⟨hc.pt h.pt (fun q=>hS g q (.inl rfl)),fun o ho=>absurd ho (by omega),fun j _ hj=>by
  have eb:=hc.block g h.pt.lt (fun q=>hS g q (.inl rfl))
  have c:=h.cl j hj
  exact ⟨(World.cell?_of_block (a:=⟨g,j*8+6,none⟩) eb).trans c.1,(World.cell?_of_block (a:=⟨g,j*8+7,none⟩) eb).trans c.2⟩,fun j hj=>absurd hj (by omega),Chg.refl _ _⟩
 clear h hc hS
 go_enter Tryz.func41,Tryz.ntmps41
 go_wp2_with fail
 go_loopw [5,1] (fun x z wr=>∃(i:Nat),x=.int .i64 (i:Int)∧z=.int .i64 ((Kx i:Nat):Int)∧i≤n∧Hid (Vk g n i Kx Ky aa al ac ba bl bc Ta Tb W wr)) (fun x _ _=>n-(intOf x).toNat)
 case atStart=>exact ⟨0,rfl,rfl,by omega,HV0⟩
 case round =>
  clear HV0
  obtain ⟨i,rfl,rfl,hi,HV⟩:=hrel
  by_cases hin:i=n
  ·subst hin
   go_wp2_with fail
   go_ret
   exact ⟨rfl,HV.out⟩
  ·have h1:(i:Int)<(n:Int):=by omega
   have hil:i<n:=by omega
   obtain ⟨k0,k1⟩:=HH.out.kx i (by omega)
   have k2:=(HH.out.kx (i+1) (by omega)).2
   have hla:=HH.out.la i hil
   have hlb:=HH.out.lb i hil
   have HP:=H_ HV.out.pt
   have HM:=H_ HV.out.ce
   have HCL:=H_ (HV.out.cl i (Nat.le_refl _) hil)
   have HCJ:Hid (∀j,i+1≤j→j<n→wr.cell? ⟨g,j*8+6,none⟩=some (.slice (aa j) (al j) (ac j))∧wr.cell? ⟨g,j*8+7,none⟩=some (.slice (ba j) (bl j) (bc j))):=H_ (fun j hj hjn=>HV.out.cl j (by omega) hjn)
   have HG:Hid (wr.grownBy wr (some g)):=H_ ⟨rfl,rfl,rfl,Nat.le_refl _,fun _ _ _=>rfl⟩
   have HVA:=H_ (fun x (hx:x<8)=>vC_at Kx aa al ac ba bl bc i x hx)
   obtain ⟨K,hKi⟩:∃K,K=Kx i:=⟨_,rfl⟩
   have HKi:=H_ hKi
   rw [←hKi] at HVA k0 k1
   rw [show ((Kx i:Nat):Int)=(K:Int) by rw [hKi]]
   clear hKi
   go_wp2_with fail
   refine (HT.out _ (K) (by push_cast;omega) (by omega) (by omega) _).mono ?_
   rintro e w1 ⟨rfl,hb⟩
   replace HG:=H_ (SeenR.kgt HG.out (SeenR.kgr hb _))
   replace HM:=H_ (HM.out.below HP.out hb)
   replace HCL:Hid (w1.cell? ⟨g,i*8+6,none⟩=some (.slice (aa i) (al i) (ac i))∧w1.cell? ⟨g,i*8+7,none⟩=some (.slice (ba i) (bl i) (bc i))):=H_ (by
    have c:=fun o=>hb.cell (p:=⟨g,o,none⟩) HP.out.lt
    exact ⟨(c _).trans HCL.out.1,(c _).trans HCL.out.2⟩)
   replace HCJ:Hid (∀j,i+1≤j→j<n→w1.cell? ⟨g,j*8+6,none⟩=some (.slice (aa j) (al j) (ac j))∧w1.cell? ⟨g,j*8+7,none⟩=some (.slice (ba j) (bl j) (bc j))):=H_ (fun j hj hjn=>by
    have c:=HCJ.out j hj hjn
    have d:=fun o=>hb.cell (p:=⟨g,o,none⟩) HP.out.lt
    exact ⟨(d _).trans c.1,(d _).trans c.2⟩)
   replace HP:=H_ (HP.out.below hb)
   clear hb
   obtain ⟨v0,c0⟩:=HP.out.has (i*8) (by omega)
   have f0:=HP.out.free (i*8) (by omega)
   have HS0:=H_ (vst (j:=i*8) HP.out HM.out HG.out (by omega) (.string (mT (K))) (HVA.out 0 (by omega)))
   replace HP:=H_ HS0.out.1
   replace HM:=H_ HS0.out.2.1
   replace HG:=H_ HS0.out.2.2
   clear HS0
   obtain ⟨W1,hW1⟩:∃z,z=(w1.setCell ⟨g,i*8,none⟩ (.string (mT (K)))):=⟨_,rfl⟩
   rw [←hW1] at HP HM HG
   replace HCL:Hid (W1.cell? ⟨g,i*8+6,none⟩=some (.slice (aa i) (al i) (ac i))∧W1.cell? ⟨g,i*8+7,none⟩=some (.slice (ba i) (bl i) (bc i))):=H_ (by
    have c:=HCL.out
    rw [hW1]
    exact ⟨by rw [EvtR.cell_far _ _ (by omega)];exact c.1,by rw [EvtR.cell_far _ _ (by omega)];exact c.2⟩)
   replace HCJ:Hid (∀j,i+1≤j→j<n→W1.cell? ⟨g,j*8+6,none⟩=some (.slice (aa j) (al j) (ac j))∧W1.cell? ⟨g,j*8+7,none⟩=some (.slice (ba j) (bl j) (bc j))):=H_ (fun j hj hjn=>by
    have c:=HCJ.out j hj hjn
    rw [hW1]
    exact ⟨by rw [EvtR.cell_far _ _ (by omega)];exact c.1,by rw [EvtR.cell_far _ _ (by omega)];exact c.2⟩)
   have HW1:=H_ hW1
   clear hW1
   go_wp2_with fail
   rw [←HW1.out]
   refine (HT.out _ (K+1) (by push_cast;omega) (by omega) (by omega) _).mono ?_
   rintro e w2 ⟨rfl,hb⟩
   replace HG:=H_ (SeenR.kgt HG.out (SeenR.kgr hb _))
   replace HM:=H_ (HM.out.below HP.out hb)
   replace HCL:Hid (w2.cell? ⟨g,i*8+6,none⟩=some (.slice (aa i) (al i) (ac i))∧w2.cell? ⟨g,i*8+7,none⟩=some (.slice (ba i) (bl i) (bc i))):=H_ (by
    have c:=fun o=>hb.cell (p:=⟨g,o,none⟩) HP.out.lt
    exact ⟨(c _).trans HCL.out.1,(c _).trans HCL.out.2⟩)
   replace HCJ:Hid (∀j,i+1≤j→j<n→w2.cell? ⟨g,j*8+6,none⟩=some (.slice (aa j) (al j) (ac j))∧w2.cell? ⟨g,j*8+7,none⟩=some (.slice (ba j) (bl j) (bc j))):=H_ (fun j hj hjn=>by
    have c:=HCJ.out j hj hjn
    have d:=fun o=>hb.cell (p:=⟨g,o,none⟩) HP.out.lt
    exact ⟨(d _).trans c.1,(d _).trans c.2⟩)
   replace HP:=H_ (HP.out.below hb)
   clear hb
   obtain ⟨v1,c1⟩:=HP.out.has (i*8+1) (by omega)
   have f1:=HP.out.free (i*8+1) (by omega)
   obtain ⟨v2,c2⟩:=HP.out.has (i*8+2) (by omega)
   have f2:=HP.out.free (i*8+2) (by omega)
   obtain ⟨v3,c3⟩:=HP.out.has (i*8+3) (by omega)
   have f3:=HP.out.free (i*8+3) (by omega)
   obtain ⟨v4,c4⟩:=HP.out.has (i*8+4) (by omega)
   have f4:=HP.out.free (i*8+4) (by omega)
   obtain ⟨v5,c5⟩:=HP.out.has (i*8+5) (by omega)
   have f5:=HP.out.free (i*8+5) (by omega)
   have HS1:=H_ (vst (j:=i*8+1) HP.out HM.out HG.out (by omega) (.string (mT (K+1))) (HVA.out 1 (by omega)))
   replace HP:=H_ HS1.out.1
   replace HM:=H_ HS1.out.2.1
   replace HG:=H_ HS1.out.2.2
   clear HS1
   have HS2:=H_ (vst (j:=i*8+2) HP.out HM.out HG.out (by omega) (.int .i64 ((K:Int)+1+1)) (HVA.out 2 (by omega)))
   replace HP:=H_ HS2.out.1
   replace HM:=H_ HS2.out.2.1
   replace HG:=H_ HS2.out.2.2
   clear HS2
   have HS3:=H_ (vst (j:=i*8+3) HP.out HM.out HG.out (by omega) (.int .i64 ((K:Int)+1+1+1)) (HVA.out 3 (by omega)))
   replace HP:=H_ HS3.out.1
   replace HM:=H_ HS3.out.2.1
   replace HG:=H_ HS3.out.2.2
   clear HS3
   have HS4:=H_ (vst (j:=i*8+4) HP.out HM.out HG.out (by omega) (.int .i64 ((K:Int)+1+1+1+1)) (HVA.out 4 (by omega)))
   replace HP:=H_ HS4.out.1
   replace HM:=H_ HS4.out.2.1
   replace HG:=H_ HS4.out.2.2
   clear HS4
   have HS5:=H_ (vst (j:=i*8+5) HP.out HM.out HG.out (by omega) (.int .i64 ((K:Int)+1+1+1+1+1)) (HVA.out 5 (by omega)))
   replace HP:=H_ HS5.out.1
   replace HM:=H_ HS5.out.2.1
   replace HG:=H_ HS5.out.2.2
   clear HS5
   obtain ⟨W2,hW2⟩:∃z,z=(((((w2.setCell ⟨g,i*8+1,none⟩ (.string (mT (K+1)))).setCell ⟨g,i*8+2,none⟩ (.int .i64 ((K:Int)+1+1))).setCell ⟨g,i*8+3,none⟩ (.int .i64 ((K:Int)+1+1+1))).setCell ⟨g,i*8+4,none⟩ (.int .i64 ((K:Int)+1+1+1+1))).setCell ⟨g,i*8+5,none⟩ (.int .i64 ((K:Int)+1+1+1+1+1))):=⟨_,rfl⟩
   rw [←hW2] at HP HM HG
   replace HCL:Hid (W2.cell? ⟨g,i*8+6,none⟩=some (.slice (aa i) (al i) (ac i))∧W2.cell? ⟨g,i*8+7,none⟩=some (.slice (ba i) (bl i) (bc i))):=H_ (by
    have c:=HCL.out
    rw [hW2]
    exact ⟨by rw [EvtR.cell_far _ _ (by omega)];rw [EvtR.cell_far _ _ (by omega)];rw [EvtR.cell_far _ _ (by omega)];rw [EvtR.cell_far _ _ (by omega)];rw [EvtR.cell_far _ _ (by omega)];exact c.1,by rw [EvtR.cell_far _ _ (by omega)];rw [EvtR.cell_far _ _ (by omega)];rw [EvtR.cell_far _ _ (by omega)];rw [EvtR.cell_far _ _ (by omega)];rw [EvtR.cell_far _ _ (by omega)];exact c.2⟩)
   replace HCJ:Hid (∀j,i+1≤j→j<n→W2.cell? ⟨g,j*8+6,none⟩=some (.slice (aa j) (al j) (ac j))∧W2.cell? ⟨g,j*8+7,none⟩=some (.slice (ba j) (bl j) (bc j))):=H_ (fun j hj hjn=>by
    have c:=HCJ.out j hj hjn
    rw [hW2]
    exact ⟨by rw [EvtR.cell_far _ _ (by omega)];rw [EvtR.cell_far _ _ (by omega)];rw [EvtR.cell_far _ _ (by omega)];rw [EvtR.cell_far _ _ (by omega)];rw [EvtR.cell_far _ _ (by omega)];exact c.1,by rw [EvtR.cell_far _ _ (by omega)];rw [EvtR.cell_far _ _ (by omega)];rw [EvtR.cell_far _ _ (by omega)];rw [EvtR.cell_far _ _ (by omega)];rw [EvtR.cell_far _ _ (by omega)];exact c.2⟩)
   have HW2:=H_ hW2
   clear hW2
   have q0:=HCL.out.1
   have hq:g<W2.heap.size:=HP.out.lt
   have q0':w2.cell? ⟨g,i*8+6,none⟩=some (.slice (aa i) (al i) (ac i)):=by
    have q:=q0
    rw [HW2.out] at q
    rw [EvtR.cell_far _ _ (by omega)] at q;rw [EvtR.cell_far _ _ (by omega)] at q;rw [EvtR.cell_far _ _ (by omega)] at q;rw [EvtR.cell_far _ _ (by omega)] at q;rw [EvtR.cell_far _ _ (by omega)] at q;exact q
   clear q0 hq
   go_wp2_with fail
   rw [←HW2.out]
   clear HW2 q0'
   clear c1 f1 c2 f2 c3 f3 c4 f4 c5 f5
   have HY:Hid (Chg (fun b=>S b∨((b=g∨∃j,j<i∧(Ta j b∨Tb j b))∨b=g)) w W2):=H_ (HC.out.join (HV.out.chg.join ((Chg.refl _ _).grown HG.out rfl)))
   have HX:Hid (Chg (fun b=>b=g) wr W2):=H_ ((Chg.refl _ _).grown HG.out rfl)
   have HMK:Hid (∀z:Int,z=((K+6:Nat):Int)→Calls Tryz.prog 90 #[.slice (aa i) (al i) (ac i),.int .i64 z] W2 fun e w'=>e=.returned (.int .i64 ((Ky i:Nat):Int))∧Chg (Ta i) W2 w'∧Hd 147 (.slice (aa i) (al i) (ac i)) (Kx i+6) (Ky i) (Ta i) w'):=H_ (fun z hz=>by
    subst hz
    rw [HKi.out]
    refine HH.out.ma i hil _ _ HY.out ?_
    rintro b (q|(q|⟨j,hj,q⟩)|q) q2
    ·exact HS.out b q (.inr ⟨i,hil,.inl q2⟩)
    ·exact HH.out.og i hil b (.inl q2) q
    ·exact HH.out.ap j i (by omega) hil (by omega) b q (.inl q2)
    ·exact HH.out.og i hil b (.inl q2) q)
   refine (HMK.out _ (by first|rfl|(push_cast;omega))).mono ?_
   rintro e y0 ⟨rfl,hc,hh⟩
   have hng:¬Ta i g:=fun q=>HH.out.og i hil g (.inl q) rfl
   have eb:=hc.block g HP.out.lt hng
   replace HM:=H_ (wr_blk HM.out eb)
   replace HCL:Hid (y0.cell? ⟨g,i*8+6,none⟩=some (.slice (aa i) (al i) (ac i))∧y0.cell? ⟨g,i*8+7,none⟩=some (.slice (ba i) (bl i) (bc i))):=H_ (by
    have c:=fun o=>World.cell?_of_block (a:=⟨g,o,none⟩) eb
    exact ⟨(c _).trans HCL.out.1,(c _).trans HCL.out.2⟩)
   replace HCJ:Hid (∀j,i+1≤j→j<n→y0.cell? ⟨g,j*8+6,none⟩=some (.slice (aa j) (al j) (ac j))∧y0.cell? ⟨g,j*8+7,none⟩=some (.slice (ba j) (bl j) (bc j))):=H_ (fun j hj hjn=>by
    have c:=HCJ.out j hj hjn
    have d:=fun o=>World.cell?_of_block (a:=⟨g,o,none⟩) eb
    exact ⟨(d _).trans c.1,(d _).trans c.2⟩)
   replace HP:=H_ (hc.pt HP.out hng)
   replace HY:=H_ (HY.out.join hc)
   replace HX:=H_ (HX.out.join hc)
   have HDa:=H_ hh
   clear hc hh hng eb HMK
   have q1:=HCL.out.2
   have hq:=HP.out.lt
   go_wp2_with fail
   clear q1 hq
   have HMK:Hid (∀z:Int,z=((Ky i:Nat):Int)→Calls Tryz.prog 91 #[.slice (ba i) (bl i) (bc i),.int .i64 z] y0 fun e w'=>e=.returned (.int .i64 ((Kx (i+1):Nat):Int))∧Chg (Tb i) y0 w'∧Hd 148 (.slice (ba i) (bl i) (bc i)) (Ky i) (Kx (i+1)) (Tb i) w'):=H_ (fun z hz=>by
    subst hz
    refine HH.out.mb i hil _ _ HY.out ?_
    rintro b ((q|(q|⟨j,hj,q⟩)|q)|q) q2
    ·exact HS.out b q (.inr ⟨i,hil,.inr q2⟩)
    ·exact HH.out.og i hil b (.inr q2) q
    ·exact HH.out.ap j i (by omega) hil (by omega) b q (.inr q2)
    ·exact HH.out.og i hil b (.inr q2) q
    ·exact HH.out.ab i hil b q q2)
   refine (HMK.out _ (by first|rfl|(push_cast;omega))).mono ?_
   rintro e y1 ⟨rfl,hc,hh⟩
   have hng:¬Tb i g:=fun q=>HH.out.og i hil g (.inr q) rfl
   have eb:=hc.block g HP.out.lt hng
   replace HM:=H_ (wr_blk HM.out eb)
   replace HCL:Hid (y1.cell? ⟨g,i*8+6,none⟩=some (.slice (aa i) (al i) (ac i))∧y1.cell? ⟨g,i*8+7,none⟩=some (.slice (ba i) (bl i) (bc i))):=H_ (by
    have c:=fun o=>World.cell?_of_block (a:=⟨g,o,none⟩) eb
    exact ⟨(c _).trans HCL.out.1,(c _).trans HCL.out.2⟩)
   replace HCJ:Hid (∀j,i+1≤j→j<n→y1.cell? ⟨g,j*8+6,none⟩=some (.slice (aa j) (al j) (ac j))∧y1.cell? ⟨g,j*8+7,none⟩=some (.slice (ba j) (bl j) (bc j))):=H_ (fun j hj hjn=>by
    have c:=HCJ.out j hj hjn
    have d:=fun o=>World.cell?_of_block (a:=⟨g,o,none⟩) eb
    exact ⟨(d _).trans c.1,(d _).trans c.2⟩)
   replace HP:=H_ (hc.pt HP.out hng)
   replace HY:=H_ (HY.out.join hc)
   replace HX:=H_ (HX.out.join hc)
   have HDb:=H_ hh
   replace HDa:=H_ (HDa.out.chg hc (fun b q q2=>HH.out.ab i hil b q2 q))
   clear hc hh hng eb HMK
   have HVN:Hid (Vk g n (i+1) Kx Ky aa al ac ba bl bc Ta Tb W y1):=H_ (by
    have hx:=HX.out
    have hm:=HM.out
    refine ⟨HP.out,?_,?_,?_,?_⟩
    ·rw [show (i+1)*8=i*8+6+1+1 by omega]
     exact (vnx (vnx hm HCL.out.1 ((HVA.out 6 (by omega)).trans rfl)) HCL.out.2 ((HVA.out 7 (by omega)).trans rfl))
    ·intro j hj hjn
     exact HCJ.out j hj hjn
    ·intro j hj
     by_cases e:j=i
     ·subst e
      exact ⟨HDa.out,HDb.out⟩
     ·have h:=HV.out.hd j (by omega)
      exact ⟨h.1.chg hx (fun b q0 q2=>by
       rcases q0 with ((rfl|q)|q)
       ·exact HH.out.og j (by omega) _ (.inl q2) rfl
       ·exact HH.out.ap i j hil (by omega) (by omega) b (.inl q) (.inl q2)
       ·exact HH.out.ap i j hil (by omega) (by omega) b (.inr q) (.inl q2)),h.2.chg hx (fun b q0 q2=>by
       rcases q0 with ((rfl|q)|q)
       ·exact HH.out.og j (by omega) _ (.inr q2) rfl
       ·exact HH.out.ap i j hil (by omega) (by omega) b (.inl q) (.inr q2)
       ·exact HH.out.ap i j hil (by omega) (by omega) b (.inr q) (.inr q2))⟩
    ·refine (HV.out.chg.wide (fun b q=>?_)).trans (hx.wide (fun b q=>?_))
     ·rcases q with q|⟨j,hj,q⟩
      ·exact .inl q
      ·exact .inr ⟨j,by omega,q⟩
     ·rcases q with (q|q)|q
      ·exact .inl q
      ·exact .inr ⟨i,by omega,(.inl q)⟩
      ·exact .inr ⟨i,by omega,(.inr q)⟩)
   clear HY HX HM HP HCL HCJ HDa HDb
   go_wp2_with fail
   go_roundw
   case rel=>exact ⟨i+1,by go_num,rfl,by omega,HVN⟩
   case measure=>simp [intOf];omega
def vBx (w:World) (g o:Nat) (u0 u1 u2 u3 u4 u5 u6 u7:Value) (w':World):Prop:=Below w.heap.size w w'∧g<w'.heap.size∧w'.cell? ⟨g,o,none⟩=some u0∧w'.cell? ⟨g,o+1,none⟩=some u1∧w'.cell? ⟨g,o+2,none⟩=some u2∧w'.cell? ⟨g,o+3,none⟩=some u3∧w'.cell? ⟨g,o+4,none⟩=some u4∧w'.cell? ⟨g,o+5,none⟩=some u5∧w'.cell? ⟨g,o+6,none⟩=some u6∧w'.cell? ⟨g,o+7,none⟩=some u7
theorem vBx.below {w w1 w2:World} {g o:Nat} {u0 u1 u2 u3 u4 u5 u6 u7:Value} (h:vBx w g o u0 u1 u2 u3 u4 u5 u6 u7 w1) (hb:Below w1.heap.size w1 w2):vBx w g o u0 u1 u2 u3 u4 u5 u6 u7 w2:=by
 obtain ⟨h0,hl,c0,c1,c2,c3,c4,c5,c6,c7⟩:=h
 have c:=fun x=>hb.cell (p:=⟨g,x,none⟩) hl
 exact ⟨h0.trans (hb.mono h0.size),by have:=hb.size;omega,(c _).trans c0,(c _).trans c1,(c _).trans c2,(c _).trans c3,(c _).trans c4,(c _).trans c5,(c _).trans c6,(c _).trans c7⟩
theorem vBx.drew {w w1:World} {g o:Nat} {u0 u1 u2 u3 u4 u5 u6 u7:Value} (h:vBx w g o u0 u1 u2 u3 u4 u5 u6 u7 w1):vBx w g o u0 u1 u2 u3 u4 u5 u6 u7 w1.drew:=⟨h.1.drew,h.2⟩
theorem v_held (g n cap:Nat) (Kx Ky:Nat→Nat) (aa:Nat→Option Addr) (al ac:Nat→Nat) (ba:Nat→Option Addr) (bl bc:Nat→Nat) (Ta Tb:Nat→Nat→Prop) (w W V Y:World) (S:Nat→Prop) (hn:n≤1048576) (h:Vh g n Kx Ky aa al ac ba bl bc Ta Tb w) (hv:Vk g n n Kx Ky aa al ac ba bl bc Ta Tb W V) (hc:Chg S V Y) (hS:∀b,S b→¬(b=g∨∃j,j<n∧(Ta j b∨Tb j b))) :
 Calls Tryz.prog 96 #[.slice (some ⟨g,0,none⟩) n cap,.int .i64 (Kx 0:Nat)] Y fun e w'=>e=.returned (.int .i64 (Kx n:Nat))∧Below Y.heap.size Y w':=by
 have HT:Hid (∀(z:Int) (K:Nat),z=K→1≤K→K<100000000→∀w,Calls Tryz.prog 89 #[.int .i64 z] w fun e w'=>e=.returned (.string (mT K))∧Below w.heap.size w w'):=H_ (fun z K e h0 h w=>by subst e;exact mark_any K h0 h w)
 have HH:=H_ h
 have HM:Hid (g<Y.heap.size∧Wr (vC Kx aa al ac ba bl bc) (n*8) g Y):=H_ ⟨Nat.lt_of_lt_of_le hv.pt.lt hc.size,wr_blk hv.ce (hc.block g hv.pt.lt (fun q=>hS g q (.inl rfl)))⟩
 have HD:Hid (∀j,j<n→Hd 147 (.slice (aa j) (al j) (ac j)) (Kx j+6) (Ky j) (Ta j) Y∧Hd 148 (.slice (ba j) (bl j) (bc j)) (Ky j) (Kx (j+1)) (Tb j) Y):=H_ (fun j hj=>by
  have h:=hv.hd j hj
  exact ⟨h.1.chg hc (fun b q q2=>hS b q (.inr ⟨j,hj,.inl q2⟩)),h.2.chg hc (fun b q q2=>hS b q (.inr ⟨j,hj,.inr q2⟩))⟩)
 clear h hv hc hS
 go_enter Tryz.func96,Tryz.ntmps96
 go_wp2_with fail
 go_loopw [5,1] (fun x z wr=>∃(i:Nat),x=.int .i64 (i:Int)∧z=.int .i64 ((Kx i:Nat):Int)∧i≤n∧Hid (Below Y.heap.size Y wr)) (fun x _ _=>n-(intOf x).toNat)
 case atStart=>exact ⟨0,rfl,rfl,by omega,H_ (Below.refl _ _)⟩
 case round =>
  obtain ⟨i,rfl,rfl,hi,HB⟩:=hrel
  by_cases hin:i=n
  ·subst hin
   go_wp2_with fail
   go_ret
   exact ⟨rfl,HB.out⟩
  ·have h1:(i:Int)<(n:Int):=by omega
   have hil:i<n:=by omega
   obtain ⟨k0,k1⟩:=HH.out.kx i (by omega)
   have k2:=(HH.out.kx (i+1) (by omega)).2
   have hla:=HH.out.la i hil
   have hlb:=HH.out.lb i hil
   have HDI:=H_ (HD.out i hil)
   have HVA:=H_ (fun x (hx:x<8)=>vC_at Kx aa al ac ba bl bc i x hx)
   obtain ⟨K,hKi⟩:∃K,K=Kx i:=⟨_,rfl⟩
   rw [←hKi] at HVA k0 k1 HDI
   rw [show ((Kx i:Nat):Int)=(K:Int) by rw [hKi]]
   have HR:Hid (∀x,x<8→wr.cell? ⟨g,i*8+x,none⟩=vC Kx aa al ac ba bl bc (i*8+x)):=H_ (fun x hx=>(HB.out.cell (p:=⟨g,i*8+x,none⟩) HM.out.1).trans (HM.out.2 (i*8+x) (by omega)))
   have hgl:g<wr.heap.size:=by have:=HB.out.size;have:=HM.out.1;omega
   clear hKi
   have q0:wr.cell? ⟨g,i*8,none⟩=some (.string (mT (K))):=(HR.out 0 (by omega)).trans (HVA.out 0 (by omega))
   have q1:wr.cell? ⟨g,i*8+1,none⟩=some (.string (mT (K+1))):=(HR.out 1 (by omega)).trans (HVA.out 1 (by omega))
   have q2:wr.cell? ⟨g,i*8+2,none⟩=some (.int .i64 ((K:Int)+1+1)):=(HR.out 2 (by omega)).trans (HVA.out 2 (by omega))
   have q3:wr.cell? ⟨g,i*8+3,none⟩=some (.int .i64 ((K:Int)+1+1+1)):=(HR.out 3 (by omega)).trans (HVA.out 3 (by omega))
   have q4:wr.cell? ⟨g,i*8+4,none⟩=some (.int .i64 ((K:Int)+1+1+1+1)):=(HR.out 4 (by omega)).trans (HVA.out 4 (by omega))
   have q5:wr.cell? ⟨g,i*8+5,none⟩=some (.int .i64 ((K:Int)+1+1+1+1+1)):=(HR.out 5 (by omega)).trans (HVA.out 5 (by omega))
   have q6:wr.cell? ⟨g,i*8+6,none⟩=some (.slice (aa i) (al i) (ac i)):=(HR.out 6 (by omega)).trans (HVA.out 6 (by omega))
   have q7:wr.cell? ⟨g,i*8+7,none⟩=some (.slice (ba i) (bl i) (bc i)):=(HR.out 7 (by omega)).trans (HVA.out 7 (by omega))
   have HT0:=H_ (fun z (hz:z=((K:Nat):Int)) w=>HT.out z (K) hz (by omega) (by omega) w)
   have HT1:=H_ (fun z (hz:z=((K+1:Nat):Int)) w=>HT.out z (K+1) hz (by omega) (by omega) w)
   clear HR HVA
   generalize mT K=X0 at *
   generalize mT (K+1)=X1 at *
   have HS0:Hid (vBx Y g (i*8) (.string X0) (.string X1) (.int .i64 ((K:Int)+1+1)) (.int .i64 ((K:Int)+1+1+1)) (.int .i64 ((K:Int)+1+1+1+1)) (.int .i64 ((K:Int)+1+1+1+1+1)) (.slice (aa i) (al i) (ac i)) (.slice (ba i) (bl i) (bc i)) wr):=H_ ⟨HB.out,hgl,q0,q1,q2,q3,q4,q5,q6,q7⟩
   have HS1:=H_ HS0.out.drew
   go_wp2_with fail
   go_region_held3 (fun w'=>Below Y.heap.size Y w'∧g<w'.heap.size∧w'.cell? ⟨g,i*8,none⟩=some (.string X0)∧w'.cell? ⟨g,i*8+1,none⟩=some (.string X1)∧w'.cell? ⟨g,i*8+2,none⟩=some (.int .i64 ((K:Int)+1+1))∧w'.cell? ⟨g,i*8+3,none⟩=some (.int .i64 ((K:Int)+1+1+1))∧w'.cell? ⟨g,i*8+4,none⟩=some (.int .i64 ((K:Int)+1+1+1+1))∧w'.cell? ⟨g,i*8+5,none⟩=some (.int .i64 ((K:Int)+1+1+1+1+1))∧w'.cell? ⟨g,i*8+6,none⟩=some (.slice (aa i) (al i) (ac i))∧w'.cell? ⟨g,i*8+7,none⟩=some (.slice (ba i) (bl i) (bc i))) (first|assumption|(exact HS0.out)|(exact HS1.out)|(exact vBx.below (w:=Y) (g:=g) (o:=i*8) (u0:=.string X0) (u1:=.string X1) (u2:=.int .i64 ((K:Int)+1+1)) (u3:=.int .i64 ((K:Int)+1+1+1)) (u4:=.int .i64 ((K:Int)+1+1+1+1)) (u5:=.int .i64 ((K:Int)+1+1+1+1+1)) (u6:=.slice (aa i) (al i) (ac i)) (u7:=.slice (ba i) (bl i) (bc i)) (by assumption) hb))
    (first|(go_at_call 89;refine (HT0.out _ (by first|rfl|(push_cast;omega)) _).mono ?_;rintro e w' ⟨rfl,hb⟩))
   rename_i hS
   replace HS0:Hid (vBx Y g (i*8) (.string X0) (.string X1) (.int .i64 ((K:Int)+1+1)) (.int .i64 ((K:Int)+1+1+1)) (.int .i64 ((K:Int)+1+1+1+1)) (.int .i64 ((K:Int)+1+1+1+1+1)) (.slice (aa i) (al i) (ac i)) (.slice (ba i) (bl i) (bc i)) _):=H_ hS
   clear HS1 q0 q1 q2 q3 q4 q5 q6 q7 hgl
   obtain ⟨hB0,hgl,q0,q1,q2,q3,q4,q5,q6,q7⟩:=hS
   clear hB0
   have HS1:=H_ HS0.out.drew
   go_wp2_with fail
   go_region_held3 (fun w'=>Below Y.heap.size Y w'∧g<w'.heap.size∧w'.cell? ⟨g,i*8,none⟩=some (.string X0)∧w'.cell? ⟨g,i*8+1,none⟩=some (.string X1)∧w'.cell? ⟨g,i*8+2,none⟩=some (.int .i64 ((K:Int)+1+1))∧w'.cell? ⟨g,i*8+3,none⟩=some (.int .i64 ((K:Int)+1+1+1))∧w'.cell? ⟨g,i*8+4,none⟩=some (.int .i64 ((K:Int)+1+1+1+1))∧w'.cell? ⟨g,i*8+5,none⟩=some (.int .i64 ((K:Int)+1+1+1+1+1))∧w'.cell? ⟨g,i*8+6,none⟩=some (.slice (aa i) (al i) (ac i))∧w'.cell? ⟨g,i*8+7,none⟩=some (.slice (ba i) (bl i) (bc i))) (first|assumption|(exact HS0.out)|(exact HS1.out)|(exact vBx.below (w:=Y) (g:=g) (o:=i*8) (u0:=.string X0) (u1:=.string X1) (u2:=.int .i64 ((K:Int)+1+1)) (u3:=.int .i64 ((K:Int)+1+1+1)) (u4:=.int .i64 ((K:Int)+1+1+1+1)) (u5:=.int .i64 ((K:Int)+1+1+1+1+1)) (u6:=.slice (aa i) (al i) (ac i)) (u7:=.slice (ba i) (bl i) (bc i)) (by assumption) hb))
    (first|(go_at_call 89;refine (HT1.out _ (by first|rfl|(push_cast;omega)) _).mono ?_;rintro e w' ⟨rfl,hb⟩))
   rename_i hS
   replace HS0:Hid (vBx Y g (i*8) (.string X0) (.string X1) (.int .i64 ((K:Int)+1+1)) (.int .i64 ((K:Int)+1+1+1)) (.int .i64 ((K:Int)+1+1+1+1)) (.int .i64 ((K:Int)+1+1+1+1+1)) (.slice (aa i) (al i) (ac i)) (.slice (ba i) (bl i) (bc i)) _):=H_ hS
   clear HS1 q0 q1 q2 q3 q4 q5 q6 q7 hgl
   obtain ⟨hB0,hgl,q0,q1,q2,q3,q4,q5,q6,q7⟩:=hS
   clear hB0
   replace HB:=H_ HS0.out.1
   have HMK:Hid (∀(z:Int) W,z=((K+6:Nat):Int)→Below Y.heap.size Y W→Calls Tryz.prog 147 #[.slice (aa i) (al i) (ac i),.int .i64 z] W fun e w3=>e=.returned (.int .i64 ((Ky i:Nat):Int))∧Below W.heap.size W w3):=H_ (fun z W hz hW=>by
    subst hz
    exact HDI.out.1 (fun _=>False) W (Chg.of_below hW) (fun _ q=>q.elim))
   have hkn:¬((Ky i:Nat):Int)<0:=by omega
   go_wp2_with fail
   refine (HMK.out _ _ (by first|rfl|(push_cast;omega)) HB.out).mono ?_
   rintro e z0 ⟨rfl,hb⟩
   replace HB:=HT_ HB hb
   replace HS0:=H_ (HS0.out.below hb)
   clear hb HMK hgl q0 q1 q2 q3 q4 q5 q6 q7
   obtain ⟨hB0,hgl,q0,q1,q2,q3,q4,q5,q6,q7⟩:=HS0.out
   clear hB0
   have HMK:Hid (∀(z:Int) W,z=((Ky i:Nat):Int)→Below Y.heap.size Y W→Calls Tryz.prog 148 #[.slice (ba i) (bl i) (bc i),.int .i64 z] W fun e w3=>e=.returned (.int .i64 ((Kx (i+1):Nat):Int))∧Below W.heap.size W w3):=H_ (fun z W hz hW=>by
    subst hz
    exact HDI.out.2 (fun _=>False) W (Chg.of_below hW) (fun _ q=>q.elim))
   have hkn:¬((Kx (i+1):Nat):Int)<0:=by omega
   go_wp2_with fail
   refine (HMK.out _ _ (by first|rfl|(push_cast;omega)) HB.out).mono ?_
   rintro e z1 ⟨rfl,hb⟩
   replace HB:=HT_ HB hb
   replace HS0:=H_ (HS0.out.below hb)
   clear hb HMK hgl q0 q1 q2 q3 q4 q5 q6 q7
   go_wp2_with fail
   go_roundw
   case rel=>exact ⟨i+1,by go_num,rfl,by omega,HB⟩
   case measure=>simp [intOf];omega
theorem mkh_wds_in (g n cap:Nat) (Kx Ky:Nat→Nat) (aa:Nat→Option Addr) (al ac:Nat→Nat) (ba:Nat→Option Addr) (bl bc:Nat→Nat) (Ta Tb:Nat→Nat→Prop) (w:World) (hn:n≤1048576) (h:Vh g n Kx Ky aa al ac ba bl bc Ta Tb w) :
 MkH 41 96 (.slice (some ⟨g,0,none⟩) n cap) (Kx 0) (Kx n) (fun b=>b=g∨∃j,j<n∧(Ta j b∨Tb j b)) w:=by
 intro S W hc hS
 refine (v_mark g n cap Kx Ky aa al ac ba bl bc Ta Tb w W S hn h hc hS).mono ?_
 rintro e w' ⟨rfl,hv⟩
 exact ⟨rfl,hv.chg,fun S2 Y hc2 hS2=>v_held g n cap Kx Ky aa al ac ba bl bc Ta Tb w W w' Y S2 hn h hv hc2 hS2⟩
end WinR
namespace LinR
open RowG
open EvtR (Pt)
open MarkR (mk mT mark_any)
def mN (k:Nat):N:=⟨mT k,((k+1:Nat):Int)⟩
def mC (o:Nat):Option Value:=(mN (1+2*(o / 2))).cells[o % 2]?
theorem rgrown {w w':World} (hb:Below w.heap.size w w') (row:Option Nat):w.grownBy w' row:=⟨hb.os,hb.tape,hb.output,hb.size,fun k hk _=>hb.block k hk⟩
theorem gtrans {w w1 w2:World} {g:Option Nat} (h1:w.grownBy w1 g) (h2:w1.grownBy w2 g):w.grownBy w2 g :=
 ⟨h2.os.trans h1.os,h2.tape.trans h1.tape,h2.output.trans h1.output,Nat.le_trans h1.size h2.size,fun k hk hne=>(h2.block k (by have:=h1.size;omega) hne).trans (h1.block k hk hne)⟩
def BoxM (w:World) (g o:Nat) (t0:ByteArray) (n:Int) (w':World):Prop:=Below w.heap.size w w'∧g<w'.heap.size∧w'.cell? ⟨g,o,none⟩=some (.string t0)∧w'.cell? ⟨g,o+1,none⟩=some (.int .i64 n)
theorem BoxM.below {w w1 w2:World} {g o:Nat} {t0:ByteArray} {n:Int} (h:BoxM w g o t0 n w1) (hb:Below w1.heap.size w1 w2):BoxM w g o t0 n w2:=by
 obtain ⟨h0,hl,c0,c1⟩:=h
 have c:=fun x=>hb.cell (p:=⟨g,x,none⟩) hl
 exact ⟨h0.trans (hb.mono h0.size),by have:=hb.size;omega,(c _).trans c0,(c _).trans c1⟩
theorem BoxM.drew {w w1:World} {g o:Nat} {t0:ByteArray} {n:Int} (h:BoxM w g o t0 n w1):BoxM w g o t0 n w1.drew:=⟨h.1.drew,h.2⟩
def Mkd (ao:Option Addr) (n:Nat) (w:World):Prop:=n=0∨∃g,ao=some ⟨g,0,none⟩∧Pt g (n*2) w∧Wr mC (n*2) g w
theorem Mkd.below {ao:Option Addr} {n:Nat} {w w':World} (h:Mkd ao n w) (hb:Below w.heap.size w w'):Mkd ao n w':=by
 rcases h with h|⟨g,rfl,hp,hm⟩
 ·exact .inl h
 ·exact .inr ⟨g,rfl,hp.below hb,hm.below hp hb⟩
end LinR
namespace LinR
open RowG
open EvtR (Pt)
open MarkR (mk mT mark_any)
theorem marks0K (K:Int) (ao:Option Addr) (cap:Nat) (w:World):Calls Tryz.prog 92 #[.slice ao 0 cap,.int .i64 K] w fun e w'=>e=.returned (.int .i64 K)∧Below w.heap.size w w':=by
 go_enter Tryz.func92,Tryz.ntmps92
 go_wp2_with fail
 go_loopw [5,1] (fun x z wr=>x=.int .i64 0∧z=.int .i64 K∧Hid (Below w.heap.size w wr)) (fun x _ _=>0)
 case atStart=>exact ⟨rfl,rfl,H_ (Below.refl _ _)⟩
 case round =>
  obtain ⟨rfl,rfl,HB⟩:=hrel
  go_wp2_with fail
  go_ret
  exact ⟨rfl,HB.out⟩
end LinR
namespace LinR
open RowG
open EvtR (Pt cell_put cell_far)
open MarkR (mk mT mark_any)
def LM (K n g:Nat) (w:World):Prop:=g<w.heap.size∧∀i,i<n→w.cell? ⟨g,i*2,none⟩=some (.string (mT (K+2*i)))∧w.cell? ⟨g,i*2+1,none⟩=some (.int .i64 ((K:Int)+2*(i:Int)+1))
theorem LM.block {K n g:Nat} {w w':World} (h:LM K n g w) (hs:w.heap.size≤w'.heap.size) (hb:w'.heap[g]? = w.heap[g]?):LM K n g w' :=
 ⟨Nat.lt_of_lt_of_le h.1 hs,fun i hi=>⟨(World.cell?_of_block (a:=⟨g,i*2,none⟩) hb).trans (h.2 i hi).1,(World.cell?_of_block (a:=⟨g,i*2+1,none⟩) hb).trans (h.2 i hi).2⟩⟩
theorem LM.below {K n g:Nat} {w w':World} (h:LM K n g w) (hb:Below w.heap.size w w'):LM K n g w':=h.block hb.size (hb.block g h.1)
theorem LM.more {K i g m:Nat} {w:World} (h:LM K i g w) (hp:Pt g m w) (hm:i*2+1<m):LM K (i+1) g ((w.setCell ⟨g,i*2,none⟩ (.string (mT (K+2*i)))).setCell ⟨g,i*2+1,none⟩ (.int .i64 ((K:Int)+2*(i:Int)+1))):=by
 have p1:=hp.set (i*2) (.string (mT (K+2*i)))
 refine ⟨by have:=h.1;simpa using this,fun j hj=>?_⟩
 by_cases e:j=i
 ·subst e
  exact ⟨by rw [cell_far _ _ (by omega),cell_put hp _ (by omega)],cell_put p1 _ hm _⟩
 ·obtain ⟨h1,h2⟩:=h.2 j (by omega)
  exact ⟨by rw [cell_far _ _ (by omega),cell_far _ _ (by omega)];exact h1,by rw [cell_far _ _ (by omega),cell_far _ _ (by omega)];exact h2⟩
theorem marksM (K:Nat) (hK0:1≤K) (hK:K≤6000000) (g n cap:Nat) (w:World) (hn:n≤1048576) (h0:Pt g (n*2) w) :
 Calls Tryz.prog 92 #[.slice (some ⟨g,0,none⟩) n cap,.int .i64 K] w fun e w'=>e=.returned (.int .i64 (K+2*n:Nat))∧w.grownBy w' (some g)∧(∀n',Pt g n' w→Pt g n' w')∧LM K n g w':=by
 have HP:=H_ h0
 have HT:Hid (∀(z:Int) (K:Nat),z=K→1≤K→K<100000000→∀w,Calls Tryz.prog 89 #[.int .i64 z] w fun e w'=>e=.returned (.string (mT K))∧Below w.heap.size w w'):=H_ (fun z K e h0 h w=>by subst e;exact mark_any K h0 h w)
 have HM0:Hid (LM K 0 g w):=H_ ⟨h0.lt,fun i hi=>absurd hi (by omega)⟩
 clear h0
 go_enter Tryz.func92,Tryz.ntmps92
 go_wp2_with fail
 go_loopw [5,1] (fun x z wr=>∃i:Nat,x=.int .i64 (i:Int)∧z=.int .i64 ((K:Int)+2*(i:Int))∧i≤n∧Hid (Pt g (n*2) wr)∧Hid (w.grownBy wr (some g))∧Hid (∀n',Pt g n' w→Pt g n' wr)∧Hid (LM K i g wr)) (fun x _ _=>n-(intOf x).toNat)
 case atStart=>exact ⟨0,rfl,by go_num,by omega,HP,H_ ⟨rfl,rfl,rfl,Nat.le_refl _,fun _ _ _=>rfl⟩,H_ (fun _ h=>h),HM0⟩
 case round =>
  clear HM0
  obtain ⟨i,rfl,rfl,hi,HP,HG,HA,HM⟩:=hrel
  by_cases hin:i=n
  ·subst hin
   go_wp2_with fail
   go_ret
   exact ⟨by go_num,HG.out,HA.out,HM.out⟩
  ·have h1:(i:Int)<(n:Int):=by omega
   go_wp2_with fail
   refine (HT.out _ (K+2*i) (by push_cast;omega) (by omega) (by omega) _).mono ?_
   rintro e w1 ⟨rfl,hb⟩
   have HP1:=H_ (HP.out.below hb)
   have HG1:=H_ (gtrans HG.out (rgrown hb _))
   have HA2:Hid (∀n',Pt g n' w→Pt g n' ((w1.setCell ⟨g,i*2,none⟩ (.string (mT (K+2*i)))).setCell ⟨g,i*2+1,none⟩ (.int .i64 ((K:Int)+2*(i:Int)+1)))):=H_ (fun n' h=>(((HA.out n' h).below hb).set _ _).set _ _)
   have HM2:=H_ ((HM.out.below hb).more HP1.out (by omega))
   obtain ⟨v0,c0⟩:=HP1.out.has (i*2) (by omega)
   have f0:=HP1.out.free (i*2) (by omega)
   obtain ⟨v1,c1⟩:=HP1.out.has (i*2+1) (by omega)
   have f1:=HP1.out.free (i*2+1) (by omega)
   have HS:=H_ (gtrans (gtrans HG1.out (grown_set _ g (i*2) (.string (mT (K+2*i))))) (grown_set _ g (i*2+1) (.int .i64 ((K:Int)+2*(i:Int)+1))))
   have HP2:=H_ ((HP1.out.set (i*2) (.string (mT (K+2*i)))).set (i*2+1) (.int .i64 ((K:Int)+2*(i:Int)+1)))
   clear hb HP HG HG1 HP1 HA HM
   go_wp2_with fail
   go_roundw
   case rel=>exact ⟨i+1,by go_num,by go_num,by omega,HP2,HS,HA2,HM2⟩
   case measure=>simp [intOf];omega
theorem heldM (K:Nat) (hK0:1≤K) (hK:K≤6000000) (g n cap:Nat) (w:World) (hn:n≤1048576) (hm:LM K n g w) :
 Calls Tryz.prog 97 #[.slice (some ⟨g,0,none⟩) n cap,.int .i64 K] w fun e w'=>e=.returned (.int .i64 (K+2*n:Nat))∧Below w.heap.size w w':=by
 have HM:=H_ hm
 have HT:Hid (∀(z:Int) (K:Nat),z=K→1≤K→K<100000000→∀w,Calls Tryz.prog 89 #[.int .i64 z] w fun e w'=>e=.returned (.string (mT K))∧Below w.heap.size w w'):=H_ (fun z K e h0 h w=>by subst e;exact mark_any K h0 h w)
 clear hm
 go_enter Tryz.func97,Tryz.ntmps97
 go_wp2_with fail
 go_loopw [5,1] (fun x z wr=>∃i:Nat,x=.int .i64 (i:Int)∧z=.int .i64 ((K:Int)+2*(i:Int))∧i≤n∧Hid (Below w.heap.size w wr)) (fun x _ _=>n-(intOf x).toNat)
 case atStart=>exact ⟨0,rfl,by go_num,by omega,H_ (Below.refl _ _)⟩
 case round =>
  obtain ⟨i,rfl,rfl,hi,HB⟩:=hrel
  by_cases hin:i=n
  ·subst hin
   go_wp2_with fail
   go_ret
   exact ⟨by go_num,HB.out⟩
  ·have h1:(i:Int)<(n:Int):=by omega
   obtain ⟨q0,q1⟩:=(HM.out.below HB.out).2 i (by omega)
   have HT0:=H_ (fun w=>HT.out ((K:Int)+2*(i:Int)) (K+2*i) (by push_cast;omega) (by omega) (by omega) w)
   generalize mT (K+2*i)=T0 at *
   have HS0:Hid (BoxM w g (i*2) T0 ((K:Int)+2*(i:Int)+1) wr):=H_ ⟨HB.out,by have:=HB.out.size;have:=HM.out.1;omega,q0,q1⟩
   have HS1:=H_ HS0.out.drew
   go_wp2_with fail
   go_region_held3 (fun w'=>Below w.heap.size w w'∧g<w'.heap.size∧w'.cell? ⟨g,i*2,none⟩=some (.string T0)∧w'.cell? ⟨g,i*2+1,none⟩=some (.int .i64 ((K:Int)+2*(i:Int)+1))) (first|assumption|(exact HS0.out)|(exact HS1.out)|(exact BoxM.below (w:=w) (g:=g) (o:=i*2) (t0:=T0) (n:=(K:Int)+2*(i:Int)+1) (by assumption) hb))
    (first|(go_at_call 89;refine (HT0.out _).mono ?_;rintro e w' ⟨rfl,hb⟩))
   rename_i hS
   replace HS0:=H_ hS
   have q0:=HS0.out.2.2.1
   have q1:=HS0.out.2.2.2
   clear hS HS1
   have HB2:=H_ HS0.out.1
   go_wp2_with fail
   go_roundw
   case rel=>exact ⟨i+1,by go_num,by go_num,by omega,HB2⟩
   case measure=>simp [intOf];omega
theorem held0K (K:Int) (ao:Option Addr) (cap:Nat) (w:World):Calls Tryz.prog 97 #[.slice ao 0 cap,.int .i64 K] w fun e w'=>e=.returned (.int .i64 K)∧Below w.heap.size w w':=by
 go_enter Tryz.func97,Tryz.ntmps97
 go_wp2_with fail
 go_loopw [5,1] (fun x z wr=>x=.int .i64 0∧z=.int .i64 K∧Hid (Below w.heap.size w wr)) (fun x _ _=>0)
 case atStart=>exact ⟨rfl,rfl,H_ (Below.refl _ _)⟩
 case round =>
  obtain ⟨rfl,rfl,HB⟩:=hrel
  go_wp2_with fail
  go_ret
  exact ⟨rfl,HB.out⟩
end LinR
end Go.Proofs.YtnceeaccbcfopaaGreatDoor
