/-
  Marks upon a list of meters of one's own, and their reading. The conditions: at most 1048576 meters, the marks below 5300001.
-/
import Derived.Test.YtnceeaccbcfopaaGreatDoorT15
namespace Go.Proofs.YtnceeaccbcfopaaGreatDoor
open Go.ChangeShapes Go.WideShapes Go.ChangeAt Go.RowKit
set_option linter.unusedVariables false
namespace CatR
open RowG (grown_set)
open ChG
open EvtR (Pt cell_put cell_far)
open MarkR (mk mT mark_any H_)
def wB (K:Nat):Bool:=(((K:Int)+1+1) % 3==0)
theorem pt_anyM {p q n o:Nat} {W:World} {v:Value} (h:Pt p n W):Pt p n (W.setCell ⟨q,o,none⟩ v):=by
 by_cases e:p=q
 ·subst e;exact h.set _ _
 ·exact OwG.pt_row h (grown_set W q o v) (by simp;exact e)
structure MsB (base g n:Nat) (la:Nat→Option Addr) (ln lc lb:Nat→Nat) (w:World):Prop where
 low:base≤g
 pt:Pt g (n*6) w
 cell:∀j,j<n→w.cell? ⟨g,j*6+5,none⟩=some (.slice (la j) (ln j) (lc j))
 own:∀j,j<n→ln j=0∨(la j=some ⟨lb j,0,none⟩∧base≤lb j∧lb j≠g∧Pt (lb j) (ln j*2) w)
 apart:∀i j,i<n→j<n→i≠j→ln i≠0→ln j≠0→lb i≠lb j
def FtM (g n:Nat) (ln lb:Nat→Nat) (b:Nat):Prop:=b=g∨∃j,j<n∧ln j≠0∧b=lb j
def MkM (g n:Nat) (la:Nat→Option Addr) (ln lc lb Kx:Nat→Nat) (w:World):Prop:=g<w.heap.size∧∀j,j<n→(w.cell? ⟨g,j*6,none⟩=some (.string (mT (Kx j)))∧w.cell? ⟨g,j*6+1,none⟩=some (.int .i64 ((Kx j:Int)+1))∧w.cell? ⟨g,j*6+2,none⟩=some (.bool (wB (Kx j)))∧w.cell? ⟨g,j*6+3,none⟩=some (.int .i64 ((Kx j:Int)+1+1+1))∧w.cell? ⟨g,j*6+4,none⟩=some (.int .i64 ((Kx j:Int)+1+1+1+1)))∧w.cell? ⟨g,j*6+5,none⟩=some (.slice (la j) (ln j) (lc j))∧(ln j=0∨(la j=some ⟨lb j,0,none⟩∧TM (Kx j+5) (ln j) (lb j) w))
section
variable {base g n:Nat} {la:Nat→Option Addr} {ln lc lb Kx:Nat→Nat} {W W':World}
theorem MsB.below (h:MsB base g n la ln lc lb W) (hb:Below W.heap.size W W'):MsB base g n la ln lc lb W' :=
 ⟨h.low,h.pt.below hb,fun j hj=>(hb.cell (p:=⟨g,j*6+5,none⟩) h.pt.lt).trans (h.cell j hj),fun j hj=>(h.own j hj).imp id (fun ⟨e1,e2,e3,e4⟩=>⟨e1,e2,e3,e4.below hb⟩),h.apart⟩
theorem MsB.put (h:MsB base g n la ln lc lb W) (o:Nat) (ho:o % 6≠5) (v:Value):MsB base g n la ln lc lb (W.setCell ⟨g,o,none⟩ v) :=
 ⟨h.low,h.pt.set _ _,fun j hj=>(cell_far _ _ (by omega) v).trans (h.cell j hj),fun j hj=>(h.own j hj).imp id (fun ⟨e1,e2,e3,e4⟩=>⟨e1,e2,e3,pt_anyM e4⟩),h.apart⟩
theorem MsB.grown (h:MsB base g n la ln lc lb W) {x:Nat} (hg:W.grownBy W' (some x)) (hx:x≠g) (ha:∀n',Pt x n' W→Pt x n' W'):MsB base g n la ln lc lb W':=by
 have eb:=hg.block g h.pt.lt (by simp;exact fun e=>hx e.symm)
 refine ⟨h.low,OwG.pt_row h.pt hg (by simp;exact fun e=>hx e.symm),fun j hj=>(World.cell?_of_block (a:=⟨g,j*6+5,none⟩) eb).trans (h.cell j hj),fun j hj=>(h.own j hj).imp id (fun ⟨e1,e2,e3,e4⟩=>⟨e1,e2,e3,?_⟩),h.apart⟩
 by_cases e:lb j=x
 ·subst e;exact ha _ e4
 ·exact OwG.pt_row e4 hg (by simp;exact e)
theorem MkM.below (h:MkM g n la ln lc lb Kx W) (hb:Below W.heap.size W W'):MkM g n la ln lc lb Kx W':=by
 refine ⟨by have:=hb.size;have:=h.1;omega,fun j hj=>?_⟩
 obtain ⟨⟨h0,h1,h2,h3,h4⟩,h5,h6⟩:=h.2 j hj
 have f:=fun o=>hb.cell (p:=⟨g,o,none⟩) h.1
 exact ⟨⟨(f _).trans h0,(f _).trans h1,(f _).trans h2,(f _).trans h3,(f _).trans h4⟩,(f _).trans h5,h6.imp id (fun ⟨e1,e2⟩=>⟨e1,e2.below hb⟩)⟩
theorem MkM.chg {S:Nat→Prop} (h:MkM g n la ln lc lb Kx W) (hc:Chg S W W') (hg:¬S g) (hl:∀j,j<n→ln j≠0→¬S (lb j)):MkM g n la ln lc lb Kx W':=by
 refine ⟨by have:=hc.size;have:=h.1;omega,fun j hj=>?_⟩
 obtain ⟨⟨h0,h1,h2,h3,h4⟩,h5,h6⟩:=h.2 j hj
 have eb:=hc.block g h.1 hg
 have f:=fun o=>World.cell?_of_block (a:=⟨g,o,none⟩) eb
 refine ⟨⟨(f _).trans h0,(f _).trans h1,(f _).trans h2,(f _).trans h3,(f _).trans h4⟩,(f _).trans h5,?_⟩
 by_cases e0:ln j=0
 ·exact .inl e0
 ·rcases h6 with h6|⟨e1,e2⟩
  ·exact absurd h6 e0
  ·exact .inr ⟨e1,e2.block hc.size (hc.block _ e2.1 (hl j hj e0))⟩
theorem MkM.put (h:MkM g n la ln lc lb Kx W) (hlb:∀j,j<n→ln j≠0→lb j≠g) (o:Nat) (ho:n*6≤o) (v:Value):MkM g n la ln lc lb Kx (W.setCell ⟨g,o,none⟩ v):=by
 refine ⟨by have:=h.1;simpa using this,fun j hj=>?_⟩
 obtain ⟨⟨h0,h1,h2,h3,h4⟩,h5,h6⟩:=h.2 j hj
 refine ⟨⟨(cell_far _ _ (by omega) v).trans h0,(cell_far _ _ (by omega) v).trans h1,(cell_far _ _ (by omega) v).trans h2,(cell_far _ _ (by omega) v).trans h3,(cell_far _ _ (by omega) v).trans h4⟩,(cell_far _ _ (by omega) v).trans h5,?_⟩
 by_cases e0:ln j=0
 ·exact .inl e0
 ·rcases h6 with h6|⟨e1,e2⟩
  ·exact absurd h6 e0
  ·have eb:=(grown_set W g o v).block (lb j) e2.1 (by simp;exact hlb j hj e0)
   exact .inr ⟨e1,e2.block (by simp) eb⟩
end
set_option maxRecDepth 100000 in
set_option maxHeartbeats 8000000 in
theorem markMB (base g n cap:Nat) (la:Nat→Option Addr) (ln lc lb Kx:Nat→Nat) (w:World) (hn:n≤1048576) (hKM:∀j,j<n→Kx (j+1)=Kx j+5+2*ln j) (hK:∀j,j≤n→1≤Kx j∧Kx j≤5300001) (hln:∀j,j<n→ln j≤1048576) (hD:MsB base g n la ln lc lb w) :
 Calls Tryz.prog 87 #[.slice (some ⟨g,0,none⟩) n cap,.int .i64 (Kx 0:Nat)] w fun e w'=>e=.returned (.int .i64 (Kx n:Nat))∧MkM g n la ln lc lb Kx w'∧Chg (FtM g n ln lb) w w':=by
 have HT:Hid (∀(z:Int) (K:Nat),z=K→1≤K→K<100000000→∀w,Calls Tryz.prog 89 #[.int .i64 z] w fun e w'=>e=.returned (.string (mT K))∧Below w.heap.size w w'):=H_ (fun z K e h0 h w=>by subst e;exact mark_any K h0 h w)
 have HKM:=H_ hKM
 have HK:=H_ hK
 have HLN:=H_ hln
 have HD:=H_ hD
 have HM0:Hid (MkM g 0 la ln lc lb Kx w):=H_ ⟨hD.pt.lt,fun j hj=>absurd hj (by omega)⟩
 clear hKM hK hln hD
 go_enter Tryz.func87,Tryz.ntmps87
 go_wp2_with fail
 go_loopw [5,1] (fun x z wr=>∃(i:Nat),x=.int .i64 (i:Int)∧z=.int .i64 ((Kx i:Nat):Int)∧i≤n∧Hid (MsB base g n la ln lc lb wr)∧Hid (MkM g i la ln lc lb Kx wr)∧Hid (Chg (FtM g n ln lb) w wr)) (fun x _ _=>n-(intOf x).toNat)
 case atStart=>exact ⟨0,rfl,rfl,by omega,HD,HM0,H_ (Chg.refl _ _)⟩
 case round =>
  clear HD HM0
  obtain ⟨i,rfl,rfl,hi,HD,HM,HC⟩:=hrel
  by_cases hin:i=n
  ·subst hin
   go_wp2_with fail
   go_ret
   exact ⟨rfl,HM.out,HC.out⟩
  ·have h1:(i:Int)<(n:Int):=by omega
   have hil:i<n:=by omega
   obtain ⟨k0,k1⟩:=HK.out i (by omega)
   have k2:=(HK.out (i+1) (by omega)).2
   have km:=HKM.out i hil
   have hll:=HLN.out i hil
   have hgl:=HD.out.pt.lt
   have HLB:Hid (∀j,j<i→ln j≠0→lb j≠g):=H_ (fun j hj e0=>by
    rcases HD.out.own j (by omega) with h|⟨_,_,h,_⟩
    ·exact absurd h e0
    ·exact h)
   go_wp2_with fail
   refine (HT.out _ (Kx i) rfl (by omega) (by omega) _).mono ?_
   rintro e w1 ⟨rfl,hb⟩
   replace HD:=H_ (HD.out.below hb)
   replace HM:=H_ (HM.out.below hb)
   replace HC:=H_ (HC.out.below hb)
   clear hb hgl
   obtain ⟨v0,c0⟩:=HD.out.pt.has (i*6) (by omega)
   have f0:=HD.out.pt.free (i*6) (by omega)
   obtain ⟨v1,c1⟩:=HD.out.pt.has (i*6+1) (by omega)
   have f1:=HD.out.pt.free (i*6+1) (by omega)
   obtain ⟨v2,c2⟩:=HD.out.pt.has (i*6+2) (by omega)
   have f2:=HD.out.pt.free (i*6+2) (by omega)
   obtain ⟨v3,c3⟩:=HD.out.pt.has (i*6+3) (by omega)
   have f3:=HD.out.pt.free (i*6+3) (by omega)
   obtain ⟨v4,c4⟩:=HD.out.pt.has (i*6+4) (by omega)
   have f4:=HD.out.pt.free (i*6+4) (by omega)
   have c5:=HD.out.cell i hil
   have hgl:=HD.out.pt.lt
   have hSg:FtM g n ln lb g:=.inl rfl
   have HWK:Hid (wB (Kx i)=((((Kx i:Nat):Int)+1+1) % 3==0)):=rfl
   generalize hwb:wB (Kx i)=wb at *
   generalize hKi:Kx i=K at *
   have hw3:(((K:Int)+1+1) % 3==0)=wb:=HWK.out.symm
   obtain ⟨W3,hW3⟩:∃W3,W3=(((((w1.setCell ⟨g,i*6,none⟩ (.string (mT K))).setCell ⟨g,i*6+1,none⟩ (.int .i64 ((K:Int)+1))).setCell ⟨g,i*6+2,none⟩ (.bool wb)).setCell ⟨g,i*6+3,none⟩ (.int .i64 ((K:Int)+1+1+1))).setCell ⟨g,i*6+4,none⟩ (.int .i64 ((K:Int)+1+1+1+1))):=⟨_,rfl⟩
   have HD3:Hid (MsB base g n la ln lc lb W3):=H_ (by rw [hW3];exact (((((HD.out.put _ (by omega) _).put _ (by omega) _).put _ (by omega) _).put _ (by omega) _).put _ (by omega) _))
   have HM3:Hid (MkM g i la ln lc lb Kx W3):=H_ (by rw [hW3];exact (((((HM.out.put HLB.out _ (by omega) _).put HLB.out _ (by omega) _).put HLB.out _ (by omega) _).put HLB.out _ (by omega) _).put HLB.out _ (by omega) _))
   have HC3:Hid (Chg (FtM g n ln lb) w W3):=H_ (by rw [hW3];exact (((((HC.out.grown (grown_set _ g _ _) hSg).grown (grown_set _ g _ _) hSg).grown (grown_set _ g _ _) hSg).grown (grown_set _ g _ _) hSg).grown (grown_set _ g _ _) hSg))
   have p0:=HD.out.pt
   have p1:=p0.set (i*6) (.string (mT K))
   have p2:=p1.set (i*6+1) (.int .i64 ((K:Int)+1))
   have p3:=p2.set (i*6+2) (.bool wb)
   have p4:=p3.set (i*6+3) (.int .i64 ((K:Int)+1+1+1))
   have HX3:Hid (W3.cell? ⟨g,i*6,none⟩=some (.string (mT K))∧W3.cell? ⟨g,i*6+1,none⟩=some (.int .i64 ((K:Int)+1))∧W3.cell? ⟨g,i*6+2,none⟩=some (.bool wb)∧W3.cell? ⟨g,i*6+3,none⟩=some (.int .i64 ((K:Int)+1+1+1))∧W3.cell? ⟨g,i*6+4,none⟩=some (.int .i64 ((K:Int)+1+1+1+1))):=H_ (by
    rw [hW3]
    refine ⟨?_,?_,?_,?_,cell_put p4 _ (by omega) _⟩
    ·rw [cell_far _ _ (by omega),cell_far _ _ (by omega),cell_far _ _ (by omega),cell_far _ _ (by omega),cell_put p0 _ (by omega)]
    ·rw [cell_far _ _ (by omega),cell_far _ _ (by omega),cell_far _ _ (by omega),cell_put p1 _ (by omega)]
    ·rw [cell_far _ _ (by omega),cell_far _ _ (by omega),cell_put p2 _ (by omega)]
    ·rw [cell_far _ _ (by omega),cell_put p3 _ (by omega)])
   clear p0 p1 p2 p3 p4
   have HTK:Hid (mT (Kx i)=mT K):=H_ (by rw [hKi])
   have HKi:=H_ hKi
   have HWB:=H_ hwb
   generalize mT K=T0 at *
   clear HD HM HC hKi HWK hwb
   by_cases hz:ln i=0
   ·rw [hz] at c5
    have HMK0:=H_ (fun z=>tierM0 z (la i) (lc i) W3)
    have HL0:=H_ hz
    go_wp2_with fail
    rw [←hW3]
    refine (HMK0.out _).mono ?_
    rintro e w4 ⟨rfl,hb⟩
    have HX4:=H_ (show MkM g (i+1) la ln lc lb Kx w4 from ⟨by have:=hb.size;have:=HD3.out.pt.lt;omega,fun j hj=>by
     by_cases e:j=i
     ·subst e
      have f:=fun o=>hb.cell (p:=⟨g,o,none⟩) HD3.out.pt.lt
      rw [HTK.out,HKi.out,HWB.out]
      obtain ⟨x0,x1,x2,x3,x4⟩:=HX3.out
      exact ⟨⟨(f _).trans x0,(f _).trans x1,(f _).trans x2,(f _).trans x3,(f _).trans x4⟩,(f _).trans (HD3.out.cell j hil),.inl HL0.out⟩
     ·exact (HM3.out.below hb).2 j (by omega)⟩)
    replace HD3:=H_ (HD3.out.below hb)
    replace HC3:=H_ (HC3.out.below hb)
    have hkk:((Kx (i+1):Nat):Int)=(K:Int)+1+1+1+1+1:=by rw [km,hz];omega
    clear hb hW3
    go_wp2_with fail
    go_roundw
    case rel=>exact ⟨i+1,by go_num,by rw [hkk],by omega,HD3,HX4,HC3⟩
    case measure=>simp [intOf];omega
   ·rcases HD3.out.own i hil with h0|⟨e1,e2,e3,e4⟩
    ·exact absurd h0 hz
    have HMK:Hid (∀z:Int,z=((K+5:Nat):Int)→Calls Tryz.prog 144 #[.slice (some ⟨lb i,0,none⟩) (ln i) (lc i),.int .i64 z] W3 fun e w'=>e=.returned (.int .i64 ((K+5)+2*ln i:Nat))∧W3.grownBy w' (some (lb i))∧(∀n',Pt (lb i) n' W3→Pt (lb i) n' w')∧TM (K+5) (ln i) (lb i) w'):=H_ (fun z hz=>by subst hz;exact tierM (K+5) (by omega) (by omega) (lb i) (ln i) (lc i) W3 hll e4)
    have HE1:=H_ e1
    have HE3:=H_ e3
    have HSl:Hid (FtM g n ln lb (lb i)):=H_ (.inr ⟨i,hil,hz,rfl⟩)
    rw [e1] at c5
    clear e4 e1
    go_wp2_with fail
    rw [←hW3]
    refine (HMK.out _ (by push_cast;omega)).mono ?_
    rintro e w4 ⟨rfl,hg4,ha4,hm4⟩
    have HX4:=H_ (show MkM g (i+1) la ln lc lb Kx w4 from ⟨by have:=hg4.size;have:=HD3.out.pt.lt;omega,fun j hj=>by
     by_cases e:j=i
     ·subst e
      have eb:=hg4.block g HD3.out.pt.lt (by simp;exact fun e=>HE3.out e.symm)
      have f:=fun o=>World.cell?_of_block (a:=⟨g,o,none⟩) eb
      rw [HTK.out,HKi.out,HWB.out]
      obtain ⟨x0,x1,x2,x3,x4⟩:=HX3.out
      exact ⟨⟨(f _).trans x0,(f _).trans x1,(f _).trans x2,(f _).trans x3,(f _).trans x4⟩,(f _).trans (HD3.out.cell j hil),.inr ⟨HE1.out,hm4⟩⟩
     ·have hc:Chg (fun b=>b=lb i) W3 w4:=(Chg.refl _ _).grown hg4 rfl
      exact (HM3.out.chg hc (fun q=>HE3.out q.symm) (fun j2 hj2 hn2 q=>HD3.out.apart j2 i (by omega) hil (by omega) hn2 hz q)).2 j (by omega)⟩)
    replace HD3:=H_ (HD3.out.grown hg4 HE3.out ha4)
    replace HC3:=H_ (HC3.out.grown hg4 HSl.out)
    have hkk:((Kx (i+1):Nat):Int)=((K+5+2*ln i:Nat):Int):=by rw [km]
    clear hg4 ha4 hm4 hW3
    go_wp2_with fail
    go_roundw
    case rel=>exact ⟨i+1,by go_num,by rw [hkk];go_num,by omega,HD3,HX4,HC3⟩
    case measure=>simp [intOf];omega
def BoxN (w:World) (g o:Nat) (t0:ByteArray) (n1:Int) (b2:Bool) (n3 n4:Int) (v:Value) (w':World):Prop:=Below w.heap.size w w'∧g<w'.heap.size∧w'.cell? ⟨g,o,none⟩=some (.string t0)∧w'.cell? ⟨g,o+1,none⟩=some (.int .i64 n1)∧w'.cell? ⟨g,o+2,none⟩=some (.bool b2)∧w'.cell? ⟨g,o+3,none⟩=some (.int .i64 n3)∧w'.cell? ⟨g,o+4,none⟩=some (.int .i64 n4)∧w'.cell? ⟨g,o+5,none⟩=some v
theorem bn_below {w wr w1 w2:World} {g o:Nat} {t0:ByteArray} {n1 n3 n4:Int} {b2:Bool} {v:Value} (h:Below wr.heap.size wr w1∧BoxN w g o t0 n1 b2 n3 n4 v w1) (hb:Below w1.heap.size w1 w2):Below wr.heap.size wr w2∧BoxN w g o t0 n1 b2 n3 n4 v w2:=by
 obtain ⟨h8,h0,hl,c0,c1,c2,c3,c4,c5⟩:=h
 have c:=fun x=>hb.cell (p:=⟨g,x,none⟩) hl
 exact ⟨h8.trans (hb.mono h8.size),h0.trans (hb.mono h0.size),by have:=hb.size;omega,(c _).trans c0,(c _).trans c1,(c _).trans c2,(c _).trans c3,(c _).trans c4,(c _).trans c5⟩
set_option maxRecDepth 100000 in
set_option maxHeartbeats 8000000 in
theorem heldMB (g n cap:Nat) (la:Nat→Option Addr) (ln lc lb Kx:Nat→Nat) (w:World) (hn:n≤1048576) (hKM:∀j,j<n→Kx (j+1)=Kx j+5+2*ln j) (hK:∀j,j≤n→1≤Kx j∧Kx j≤5300001) (hln:∀j,j<n→ln j≤1048576) (hM:MkM g n la ln lc lb Kx w) :
 Calls Tryz.prog 145 #[.slice (some ⟨g,0,none⟩) n cap,.int .i64 (Kx 0:Nat)] w fun e w'=>e=.returned (.int .i64 (Kx n:Nat))∧Below w.heap.size w w':=by
 have HT:Hid (∀(z:Int) (K:Nat),z=K→1≤K→K<100000000→∀w,Calls Tryz.prog 89 #[.int .i64 z] w fun e w'=>e=.returned (.string (mT K))∧Below w.heap.size w w'):=H_ (fun z K e h0 h w=>by subst e;exact mark_any K h0 h w)
 have HKM:=H_ hKM
 have HK:=H_ hK
 have HLN:=H_ hln
 have HM:=H_ hM
 clear hKM hK hln hM
 go_enter Tryz.func145,Tryz.ntmps145
 go_wp2_with fail
 go_loopw [5,1] (fun x z wr=>∃(i:Nat),x=.int .i64 (i:Int)∧z=.int .i64 ((Kx i:Nat):Int)∧i≤n∧Hid (Below w.heap.size w wr)) (fun x _ _=>n-(intOf x).toNat)
 case atStart=>exact ⟨0,rfl,rfl,by omega,H_ (Below.refl _ _)⟩
 case round =>
  obtain ⟨i,rfl,rfl,hi,HB⟩:=hrel
  by_cases hin:i=n
  ·subst hin
   go_wp2_with fail
   go_ret
   exact ⟨rfl,HB.out⟩
  ·have h1:(i:Int)<(n:Int):=by omega
   have hil:i<n:=by omega
   obtain ⟨k0,k1⟩:=HK.out i (by omega)
   have k2:=(HK.out (i+1) (by omega)).2
   have km:=HKM.out i hil
   have hll:=HLN.out i hil
   have HMW:=H_ (HM.out.below HB.out)
   have hgl:=HMW.out.1
   obtain ⟨⟨c0,c1,c2,c3,c4⟩,c5,hL⟩:=HMW.out.2 i hil
   have HT0:=H_ (fun w=>HT.out ((Kx i:Nat):Int) (Kx i) rfl (by omega) (by omega) w)
   have HLW:Hid (∀W,Below wr.heap.size wr W→(ln i=0∨(la i=some ⟨lb i,0,none⟩∧TM (Kx i+5) (ln i) (lb i) W))):=H_ (fun W hW=>hL.imp id (fun ⟨e1,e2⟩=>⟨e1,e2.below hW⟩))
   have HWK:Hid (wB (Kx i)=((((Kx i:Nat):Int)+1+1) % 3==0)):=rfl
   clear hL HMW
   generalize wB (Kx i)=wb at *
   generalize Kx i=K at *
   have hw3:(((K:Int)+1+1) % 3==0)=wb:=HWK.out.symm
   generalize mT K=T0 at *
   have HS2:Hid (Below wr.heap.size wr wr∧BoxN w g (i*6) T0 ((K:Int)+1) wb ((K:Int)+1+1+1) ((K:Int)+1+1+1+1) (.slice (la i) (ln i) (lc i)) wr):=H_ ⟨Below.refl _ _,HB.out,hgl,c0,c1,c2,c3,c4,c5⟩
   have HS3:Hid (Below wr.heap.size wr wr.drew∧BoxN w g (i*6) T0 ((K:Int)+1) wb ((K:Int)+1+1+1) ((K:Int)+1+1+1+1) (.slice (la i) (ln i) (lc i)) wr.drew):=H_ (bn_below HS2.out (Below.refl _ _).drew)
   go_wp2_with fail
   go_region_held3 (fun w'=>Below wr.heap.size wr w'∧Below w.heap.size w w'∧g<w'.heap.size∧w'.cell? ⟨g,i*6,none⟩=some (.string T0)∧w'.cell? ⟨g,i*6+1,none⟩=some (.int .i64 ((K:Int)+1))∧w'.cell? ⟨g,i*6+2,none⟩=some (.bool wb)∧w'.cell? ⟨g,i*6+3,none⟩=some (.int .i64 ((K:Int)+1+1+1))∧w'.cell? ⟨g,i*6+4,none⟩=some (.int .i64 ((K:Int)+1+1+1+1))∧w'.cell? ⟨g,i*6+5,none⟩=some (.slice (la i) (ln i) (lc i))) (first|assumption|(exact HS2.out)|(exact HS3.out)|(exact bn_below (by assumption) hb))
    (first|(go_at_call 89;refine (HT0.out _).mono ?_;rintro e w' ⟨rfl,hb⟩))
   rename_i hS
   have HBW:=H_ hS.1
   have HB2:=H_ hS.2.1
   have HLX:=H_ (HLW.out _ hS.1)
   obtain ⟨_,_,gl2,d0,d1,d2,d3,d4,d5⟩:=hS
   clear HS2 HS3 c0 c1 c2 c3 c4 c5 hgl HLW
   by_cases h0:ln i=0
   ·rw [h0] at d5
    have HMK:=H_ (fun z W=>tierH0 z (la i) (lc i) W)
    have hkk:((Kx (i+1):Nat):Int)=(K:Int)+1+1+1+1+1:=by rw [km,h0];omega
    have hkn:¬(K:Int)+1+1+1+1+1<0:=by omega
    go_wp2_with fail
    refine (HMK.out _ _).mono ?_
    rintro e w4 ⟨rfl,hb⟩
    replace HB2:=H_ (HB2.out.trans (hb.mono HB2.out.size))
    clear hb
    go_wp2_with fail
    go_roundw
    case rel=>exact ⟨i+1,by go_num,by rw [hkk],by omega,HB2⟩
    case measure=>simp [intOf];omega
   ·rcases HLX.out with q|⟨e1,e2⟩
    ·exact absurd q h0
    rw [e1] at d5
    have HMK:=H_ (fun (z:Int) (hz:z=((K+5:Nat):Int))=>by subst hz;exact tierH (K+5) (by omega) (by omega) (lb i) (ln i) (lc i) _ hll e2)
    have hkk:((Kx (i+1):Nat):Int)=((K+5+2*ln i:Nat):Int):=by rw [km]
    have hkn:¬((K+5+2*ln i:Nat):Int)<0:=by omega
    clear e2 HLX
    go_wp2_with fail
    refine (HMK.out ((K:Int)+1+1+1+1+1) (by push_cast;omega)).mono ?_
    rintro e w4 ⟨rfl,hb⟩
    replace HB2:=H_ (HB2.out.trans (hb.mono HB2.out.size))
    clear hb
    generalize ((K+5+2*ln i:Nat):Int)=Z at *
    go_wp2_with fail
    go_roundw
    case rel=>exact ⟨i+1,by go_num,by rw [hkk],by omega,HB2⟩
    case measure=>simp [intOf];omega
end CatR
end Go.Proofs.YtnceeaccbcfopaaGreatDoor
