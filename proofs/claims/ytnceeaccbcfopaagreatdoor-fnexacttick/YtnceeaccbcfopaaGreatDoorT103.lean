/-
  What the model calls a right catalog. The condition: all in it is small.
-/
import Derived.Test.YtnceeaccbcfopaaGreatDoorT102
namespace Go.Proofs.YtnceeaccbcfopaaGreatDoor
open Go.ChangeShapes Go.WideShapes Go.ChangeAt Go.RowKit
set_option linter.unusedVariables false
namespace CatR
theorem blk2 {b:Nat} {x y:Value} {w:World} (hl:b<w.heap.size) (h0:w.cell? ⟨b,0,none⟩=some x) (h1:w.cell? ⟨b,1,none⟩=some y):Blk b [x,y] w:=⟨hl,fun i hi=>by
 match i,hi with
 | 0,_=>exact h0
 | 1,_=>exact h1⟩
def BS (w:World) (B b o o':Nat) (x0 x1 a0 a1 a2 a3 a4 a5 p:Value) (W:World):Prop:=Below w.heap.size w W∧B<W.heap.size∧b<W.heap.size∧W.cell? ⟨B,0,none⟩=some x0∧W.cell? ⟨B,1,none⟩=some x1∧W.cell? ⟨b,o,none⟩=some a0∧W.cell? ⟨b,o+1,none⟩=some a1∧W.cell? ⟨b,o+2,none⟩=some a2∧W.cell? ⟨b,o+3,none⟩=some a3∧W.cell? ⟨b,o+4,none⟩=some a4∧W.cell? ⟨b,o+5,none⟩=some a5∧W.cell? ⟨b,o',none⟩=some p
theorem BS.below {w:World} {B b o o':Nat} {x0 x1 a0 a1 a2 a3 a4 a5 p:Value} {W W':World} (h:BS w B b o o' x0 x1 a0 a1 a2 a3 a4 a5 p W) (hb:Below W.heap.size W W'):BS w B b o o' x0 x1 a0 a1 a2 a3 a4 a5 p W':=by
 obtain ⟨h0,l1,l2,p0,p1,q0,q1,q2,q3,q4,q5,q6⟩:=h
 have f:=fun o=>hb.cell (p:=⟨B,o,none⟩) l1
 have g:=fun o=>hb.cell (p:=⟨b,o,none⟩) l2
 have hs:=hb.size
 exact ⟨h0.trans (hb.mono h0.size),by omega,by omega,(f _).trans p0,(f _).trans p1,(g _).trans q0,(g _).trans q1,(g _).trans q2,(g _).trans q3,(g _).trans q4,(g _).trans q5,(g _).trans q6⟩
theorem BS.drew {w:World} {B b o o':Nat} {x0 x1 a0 a1 a2 a3 a4 a5 p:Value} {W:World} (h:BS w B b o o' x0 x1 a0 a1 a2 a3 a4 a5 p W):BS w B b o o' x0 x1 a0 a1 a2 a3 a4 a5 p W.drew:=⟨h.1.drew,h.2⟩
set_option maxRecDepth 100000 in
set_option maxHeartbeats 8000000 in
theorem spec_ca (v:Value) (c:Ca) (w:World) (hS:c.Small) (hC:IsCa v c w) :
 Calls Tryz.prog 51 #[v] w fun e w'=>e=.returned (.bool (caB c))∧Below w.heap.size w w':=by
 obtain ⟨ma,mc,ca,cc,rfl,hM,hR⟩:=hC
 obtain ⟨ms,cs⟩:=c
 obtain ⟨s1,s2,s3,s4⟩:=hS
 simp only at *
 obtain ⟨V,hV⟩:=mes_v hM
 have HVV:Hid (caB ⟨ms,cs⟩=(msB ms&&csB cs)):=rfl
 have HI:=H_ hV
 have HJ:=H_ hR
 have HS2:=H_ s2
 have HS4:=H_ s4
 generalize hml:ms.length=ml at *
 generalize hcl:cs.length=cl at *
 have HML:=H_ hml
 have HCL:=H_ hcl
 clear hM hV hR s2 s4 hml hcl
 have HA0:Hid (Blk w.heap.size [.slice ma ml mc,.slice ca cl cc] (w.alloc (.cells #[.slice ma ml mc,.slice ca cl cc] 36))):=H_ (Blk.new w _ _)
 have HB0:Hid (Below w.heap.size w (w.alloc (.cells #[.slice ma ml mc,.slice ca cl cc] 36))):=H_ ((Below.refl _ _).alloc (Nat.le_refl _) _)
 by_cases h6:6<ml
 ·have h6':(6:Int)<(ml:Int):=by omega
  have HR:=H_ (ms_many (ms:=ms) (by have:=HML.out;omega))
  go_enter Tryz.func51,Tryz.ntmps51
  go_wp2_with fail
  go_ret
  exact ⟨ret_bool (by rw [HVV.out,HR.out];rfl),HB0.out⟩
 ·by_cases g6:6<cl
  ·have g6':(6:Int)<(cl:Int):=by omega
   have h6':¬(6:Int)<(ml:Int):=by omega
   have HR:=H_ (cs_many (cs:=cs) (by have:=HCL.out;omega))
   go_enter Tryz.func51,Tryz.ntmps51
   go_wp2_with fail
   go_ret
   exact ⟨ret_bool (by rw [HVV.out,HR.out];simp),HB0.out⟩
  ·have g6':¬(6:Int)<(cl:Int):=by omega
   have h6':¬(6:Int)<(ml:Int):=by omega
   go_enter Tryz.func51,Tryz.ntmps51
   go_wp2_with fail
   go_loopw [3] (fun z wr=>∃k:Nat,k≤ml∧z=.int .i64 k∧Hid (MOk ms k)∧Hid (Below w.heap.size w wr)∧Hid (Blk w.heap.size [.slice ma ml mc,.slice ca cl cc] wr)) (fun z _=>ml-(intOf z).toNat)
   case atStart=>exact ⟨0,by omega,rfl,H_ (MOk.zero ms),HB0,HA0⟩
   case round =>
    obtain ⟨k,hk,rfl,HK,HB,HA⟩:=hrel
    have hbl:=HA.out.1
    have q0:wr.cell? ⟨w.heap.size,0,none⟩=some (.slice ma ml mc):=HA.out.2 0 (by simp)
    have q1:wr.cell? ⟨w.heap.size,1,none⟩=some (.slice ca cl cc):=HA.out.2 1 (by simp)
    by_cases hlt:k<ml
    ·have hlt2:(k:Int)<(ml:Int):=by omega
     have hkl:k<ms.length:=by have:=HML.out;omega
     rcases HI.out.below HB.out with h|⟨b,off,rfl,hbb,h⟩
     ·omega
     have HP:Hid (∀j,j+1=k→wr.cell? ⟨b,off+j*6,none⟩=some (.string (mN ms j))):=H_ (fun j hj=>by
      obtain ⟨_,_,_,q,_⟩:=h j (by omega)
      exact q)
     obtain ⟨ta,tc,hv,c0,c1,c2,c3,c4,c5,_⟩:=h k hlt
     clear h
     have HMR:=H_ (fun W (hW:Below w.heap.size w W)=>spec_meter (V k) (ms.getD k Me.zero) W (HS2.out k hlt).1 (HS2.out k hlt).2 ((HI.out.below hW).is k hlt))
     have HWR:=H_ (ms_wrong (ms:=ms) hkl)
     have HFL:=H_ (ms_flat (ms:=ms) hkl)
     have HMO:=H_ (fun (h1:mB (ms.getD k Me.zero)=true) h2=>HK.out.more (mB_iff.1 h1) h2)
     rw [hv] at HMR
     generalize mB (ms.getD k Me.zero)=r at *
     generalize mN ms k=n at *
     generalize (ms.getD k Me.zero).ts.length=tl at *
     generalize (ms.getD k Me.zero).g=g at *
     generalize (ms.getD k Me.zero).wh=wh at *
     generalize (ms.getD k Me.zero).f=f at *
     generalize (ms.getD k Me.zero).l=l at *
     clear hv
     rcases (show k=0∨∃j,j+1=k from by rcases k with _|j;exact .inl rfl;exact .inr ⟨j,rfl⟩) with rfl|⟨j,hj⟩
     ·have HMO0:=H_ (fun h=>HMO.out h (fun h0=>absurd h0 (by omega)))
      simp only [Nat.zero_mul,Nat.add_zero] at c0 c1 c2 c3 c4 c5
      have HS0:Hid ((BS w w.heap.size b (off) (off) (.slice (some ⟨b,off,none⟩) ml mc) (.slice ca cl cc) (.string n) (.int .i64 g) (.bool wh) (.int .i64 f) (.int .i64 l) (.slice ta tl tc) (.string n)) wr):=H_ ⟨HB.out,hbl,hbb,q0,q1,c0,c1,c2,c3,c4,c5,c0⟩
      obtain ⟨S,hS⟩:∃S:World→Prop,∀W,S W↔(BS w w.heap.size b (off) (off) (.slice (some ⟨b,off,none⟩) ml mc) (.slice ca cl cc) (.string n) (.int .i64 g) (.bool wh) (.int .i64 f) (.int .i64 l) (.slice ta tl tc) (.string n)) W:=⟨_,fun _=>Iff.rfl⟩
      have HSC:Hid (∀s:HW S,(BS w w.heap.size b (off) (off) (.slice (some ⟨b,off,none⟩) ml mc) (.slice ca cl cc) (.string n) (.int .i64 g) (.bool wh) (.int .i64 f) (.int .i64 l) (.slice ta tl tc) (.string n)) s.w):=H_ (fun s=>(hS _).1 s.h)
      have HSB:Hid (∀(s:HW S) w',Below s.w.heap.size s.w w'→S w'):=H_ (fun s w' hb=>(hS _).2 ((HSC.out s).below hb))
      have HSD:Hid (S wr.drew):=H_ ((hS _).2 HS0.out.drew)
      have hne:Nonempty (HW S):=⟨⟨_,HSD.out⟩⟩
      have e0:∀s:HW S,s.w.cell? ⟨w.heap.size,0,none⟩=some (.slice (some ⟨b,off,none⟩) ml mc):=fun s=>(HSC.out s).2.2.2.1
      have f0:∀s:HW S,s.w.cell? ⟨b,off,none⟩=some (.string n):=fun s=>(HSC.out s).2.2.2.2.2.1
      have f1:∀s:HW S,s.w.cell? ⟨b,off+1,none⟩=some (.int .i64 g):=fun s=>(HSC.out s).2.2.2.2.2.2.1
      have f2:∀s:HW S,s.w.cell? ⟨b,off+2,none⟩=some (.bool wh):=fun s=>(HSC.out s).2.2.2.2.2.2.2.1
      have f3:∀s:HW S,s.w.cell? ⟨b,off+3,none⟩=some (.int .i64 f):=fun s=>(HSC.out s).2.2.2.2.2.2.2.2.1
      have f4:∀s:HW S,s.w.cell? ⟨b,off+4,none⟩=some (.int .i64 l):=fun s=>(HSC.out s).2.2.2.2.2.2.2.2.2.1
      have f5:∀s:HW S,s.w.cell? ⟨b,off+5,none⟩=some (.slice ta tl tc):=fun s=>(HSC.out s).2.2.2.2.2.2.2.2.2.2.1
      have f6:∀s:HW S,s.w.cell? ⟨b,off,none⟩=some (.string n):=fun s=>(HSC.out s).2.2.2.2.2.2.2.2.2.2.2
      clear hS
      clear f6
      cases r
      ·have HR:=H_ (HWR.out rfl)
       go_wp2_with fail
       refine wp_region_hw S (by kernel_rfl) (by kernel_rfl) HSD.out ?_
       repeat (go_big_quiet_step ((rename_i s;go_at_call 103;refine (HMR.out _ (HSC.out s).1).mono ?_;rintro e w1 ⟨rfl,hb1⟩;exact ⟨rfl,⟨w1,HSB.out s w1 hb1⟩,rfl⟩)))
       refine wpQuiet_nil ?_
       intro _ hw'
       obtain ⟨s,hw''⟩:=hw'
       subst hw''
       have HBF:=H_ (HSC.out s).1
       go_wp2_with fail
       go_ret
       exact ⟨ret_bool (by rw [HVV.out,HR.out];rfl),HBF.out⟩
      ·have HM:=H_ (HMO0.out rfl)
       go_wp2_with fail
       refine wp_region_hw S (by kernel_rfl) (by kernel_rfl) HSD.out ?_
       repeat (go_big_quiet_step ((rename_i s;go_at_call 103;refine (HMR.out _ (HSC.out s).1).mono ?_;rintro e w1 ⟨rfl,hb1⟩;exact ⟨rfl,⟨w1,HSB.out s w1 hb1⟩,rfl⟩)))
       refine wpQuiet_nil ?_
       intro _ hw'
       obtain ⟨s,hw''⟩:=hw'
       subst hw''
       have HBF:=H_ (HSC.out s).1
       have HAF:Hid (Blk w.heap.size [.slice (some ⟨b,off,none⟩) ml mc,.slice ca cl cc] s.w):=H_ (blk2 (HSC.out s).2.1 (HSC.out s).2.2.2.1 (HSC.out s).2.2.2.2.1)
       go_wp2_with fail
       go_roundw
       case rel=>exact ⟨0+1,by omega,by go_num,HM,HBF,HAF⟩
       case measure=>simp [intOf];omega
     ·have p0:=HP.out j hj
      have hj1:IntKind.i64.wrap ((k:Int)-1)=(j:Int):=by rw [IntKind.wrap_i64];omega
      have hj2:0<k:=by omega
      have hj3:(j:Int)<(ml:Int):=by omega
      have ejk:k-1=j:=by omega
      rw [ejk] at HFL HMO
      clear hj ejk
      generalize hpn:mN ms j=pn at *
      have HPN:=H_ hpn
      clear hpn
      have HS0:Hid ((BS w w.heap.size b (off+k*6) (off+j*6) (.slice (some ⟨b,off,none⟩) ml mc) (.slice ca cl cc) (.string n) (.int .i64 g) (.bool wh) (.int .i64 f) (.int .i64 l) (.slice ta tl tc) (.string pn)) wr):=H_ ⟨HB.out,hbl,hbb,q0,q1,c0,c1,c2,c3,c4,c5,p0⟩
      obtain ⟨S,hS⟩:∃S:World→Prop,∀W,S W↔(BS w w.heap.size b (off+k*6) (off+j*6) (.slice (some ⟨b,off,none⟩) ml mc) (.slice ca cl cc) (.string n) (.int .i64 g) (.bool wh) (.int .i64 f) (.int .i64 l) (.slice ta tl tc) (.string pn)) W:=⟨_,fun _=>Iff.rfl⟩
      have HSC:Hid (∀s:HW S,(BS w w.heap.size b (off+k*6) (off+j*6) (.slice (some ⟨b,off,none⟩) ml mc) (.slice ca cl cc) (.string n) (.int .i64 g) (.bool wh) (.int .i64 f) (.int .i64 l) (.slice ta tl tc) (.string pn)) s.w):=H_ (fun s=>(hS _).1 s.h)
      have HSB:Hid (∀(s:HW S) w',Below s.w.heap.size s.w w'→S w'):=H_ (fun s w' hb=>(hS _).2 ((HSC.out s).below hb))
      have HSD:Hid (S wr.drew):=H_ ((hS _).2 HS0.out.drew)
      have hne:Nonempty (HW S):=⟨⟨_,HSD.out⟩⟩
      have e0:∀s:HW S,s.w.cell? ⟨w.heap.size,0,none⟩=some (.slice (some ⟨b,off,none⟩) ml mc):=fun s=>(HSC.out s).2.2.2.1
      have f0:∀s:HW S,s.w.cell? ⟨b,off+k*6,none⟩=some (.string n):=fun s=>(HSC.out s).2.2.2.2.2.1
      have f1:∀s:HW S,s.w.cell? ⟨b,off+k*6+1,none⟩=some (.int .i64 g):=fun s=>(HSC.out s).2.2.2.2.2.2.1
      have f2:∀s:HW S,s.w.cell? ⟨b,off+k*6+2,none⟩=some (.bool wh):=fun s=>(HSC.out s).2.2.2.2.2.2.2.1
      have f3:∀s:HW S,s.w.cell? ⟨b,off+k*6+3,none⟩=some (.int .i64 f):=fun s=>(HSC.out s).2.2.2.2.2.2.2.2.1
      have f4:∀s:HW S,s.w.cell? ⟨b,off+k*6+4,none⟩=some (.int .i64 l):=fun s=>(HSC.out s).2.2.2.2.2.2.2.2.2.1
      have f5:∀s:HW S,s.w.cell? ⟨b,off+k*6+5,none⟩=some (.slice ta tl tc):=fun s=>(HSC.out s).2.2.2.2.2.2.2.2.2.2.1
      have f6:∀s:HW S,s.w.cell? ⟨b,off+j*6,none⟩=some (.string pn):=fun s=>(HSC.out s).2.2.2.2.2.2.2.2.2.2.2
      clear hS
      cases r
      ·have HR:=H_ (HWR.out rfl)
       go_wp2_with fail
       refine wp_region_hw S (by kernel_rfl) (by kernel_rfl) HSD.out ?_
       repeat (go_big_quiet_step ((rename_i s;go_at_call 103;refine (HMR.out _ (HSC.out s).1).mono ?_;rintro e w1 ⟨rfl,hb1⟩;exact ⟨rfl,⟨w1,HSB.out s w1 hb1⟩,rfl⟩)))
       refine wpQuiet_nil ?_
       intro _ hw'
       obtain ⟨s,hw''⟩:=hw'
       subst hw''
       have HBF:=H_ (HSC.out s).1
       go_wp2_with fail
       go_ret
       exact ⟨ret_bool (by rw [HVV.out,HR.out];rfl),HBF.out⟩
      ·cases hfl:Op.bytesLess pn.toList n.toList
       ·have HR:=H_ (HFL.out hj2 hfl)
        go_wp2_with fail
        refine wp_region_hw S (by kernel_rfl) (by kernel_rfl) HSD.out ?_
        repeat (go_big_quiet_step ((rename_i s;go_at_call 103;refine (HMR.out _ (HSC.out s).1).mono ?_;rintro e w1 ⟨rfl,hb1⟩;exact ⟨rfl,⟨w1,HSB.out s w1 hb1⟩,rfl⟩)))
        refine wpQuiet_nil ?_
        intro _ hw'
        obtain ⟨s,hw''⟩:=hw'
        subst hw''
        have HBF:=H_ (HSC.out s).1
        go_wp2_with fail
        go_ret
        exact ⟨ret_bool (by rw [HVV.out,HR.out];rfl),HBF.out⟩
       ·have HM:=H_ (HMO.out rfl (fun _=>hfl))
        go_wp2_with fail
        refine wp_region_hw S (by kernel_rfl) (by kernel_rfl) HSD.out ?_
        repeat (go_big_quiet_step ((rename_i s;go_at_call 103;refine (HMR.out _ (HSC.out s).1).mono ?_;rintro e w1 ⟨rfl,hb1⟩;exact ⟨rfl,⟨w1,HSB.out s w1 hb1⟩,rfl⟩)))
        refine wpQuiet_nil ?_
        intro _ hw'
        obtain ⟨s,hw''⟩:=hw'
        subst hw''
        have HBF:=H_ (HSC.out s).1
        have HAF:Hid (Blk w.heap.size [.slice (some ⟨b,off,none⟩) ml mc,.slice ca cl cc] s.w):=H_ (blk2 (HSC.out s).2.1 (HSC.out s).2.2.2.1 (HSC.out s).2.2.2.2.1)
        go_wp2_with fail
        go_roundw
        case rel=>exact ⟨k+1,by omega,by go_num,HM,HBF,HAF⟩
        case measure=>simp [intOf];omega
    ·obtain rfl:k=ml:=by omega
     have HMR:Hid (msB ms=true):=H_ (ms_end (by have:=HML.out;omega) (by rw [HML.out];exact HK.out))
     go_wp2_with fail
     go_loopw [4] (fun z wx=>∃q:Nat,q≤cl∧z=.int .i64 q∧Hid (COk cs q)∧Hid (Below w.heap.size w wx)∧Hid (Blk w.heap.size [.slice ma k mc,.slice ca cl cc] wx)) (fun z _=>cl-(intOf z).toNat)
     case atStart=>exact ⟨0,by omega,rfl,H_ (COk.zero cs),HB,HA⟩
     case round =>
      clear HK HB HA hbl q0 q1
      obtain ⟨q,hq,rfl,HK,HB,HA⟩:=hrel
      have hbl:=HA.out.1
      have q0:wr.cell? ⟨w.heap.size,0,none⟩=some (.slice ma k mc):=HA.out.2 0 (by simp)
      have q1:wr.cell? ⟨w.heap.size,1,none⟩=some (.slice ca cl cc):=HA.out.2 1 (by simp)
      by_cases hlt:q<cl
      ·have hlt2:(q:Int)<(cl:Int):=by omega
       have hkl:q<cs.length:=by have:=HCL.out;omega
       obtain ⟨b,off,rfl,hbb,d0,d1⟩:=crs_at (HJ.out.below HB.out) q hlt
       have c0:wr.cell? ⟨b,off+q*2,none⟩=some (.string (cA cs q)):=d0
       have c1:wr.cell? ⟨b,off+q*2+1,none⟩=some (.int .i64 (cM cs q)):=d1
       have HP:Hid (∀j,j+1=q→wr.cell? ⟨b,off+j*2,none⟩=some (.string (cA cs j))):=H_ (fun j hj=>by
        obtain ⟨b',off',hbo,_,e0,_⟩:=crs_at (HJ.out.below HB.out) j (by omega)
        obtain ⟨rfl,rfl⟩:b=b'∧off=off':=by simpa using hbo
        exact e0)
       clear d0 d1
       have hsz:(cA cs q).size≤1048576:=HS4.out q hlt
       have HN:=H_ (fun w=>NameR.spec_any (cA cs q) w hsz)
       have HW:=H_ (fun w=>isS (cM cs q) 0 1000000000000 w)
       have HNA:=H_ (cs_name hkl)
       have HMI:=H_ (cs_micro hkl)
       have HFL:=H_ (cs_flat (cs:=cs) hkl)
       have HMO:=H_ (fun h1 h3 h2=>HK.out.more (k:=q) h1 h3 h2)
       generalize NameR.nameB (cA cs q)=r at *
       generalize cA cs q=a at *
       generalize cM cs q=m at *
       have HAl:=H_ (fun o=>HB.out.alloc HB.out.size o)
       have HBl:=H_ (fun o=>HA.out.alloc o)
       clear hsz
       rcases (show q=0∨∃j,j+1=q from by rcases q with _|j;exact .inl rfl;exact .inr ⟨j,rfl⟩) with rfl|⟨j,hj⟩
       ·simp only [Nat.zero_mul,Nat.add_zero] at c0 c1
        cases r
        ·have HR:=H_ (HNA.out rfl)
         go_wp2_with fail
         go_quiet ((first|(go_at_call 104;exact Calls.quiet_of_same (HN.out _))|(go_at_call 63;exact Calls.quiet_of_same (HW.out _))))
         go_wp2_with fail
         go_ret
         exact ⟨ret_bool (by rw [HVV.out,HR.out];simp),bdrewN (HAl.out _) _⟩
        ·by_cases hm:0≤m∧m≤1000000000000
         ·have HM:=H_ (HMO.out rfl hm (fun h=>absurd h (by omega)))
          rw [decide_eq_true hm] at HW
          go_wp2_with fail
          go_quiet ((first|(go_at_call 104;exact Calls.quiet_of_same (HN.out _))|(go_at_call 63;exact Calls.quiet_of_same (HW.out _))))
          go_wp2_with fail
          go_roundw
          case rel=>exact ⟨0+1,by omega,by go_num,HM,H_ (bdrewN (HAl.out _) _),H_ ((HBl.out _).drewN _)⟩
          case measure=>simp [intOf];omega
         ·have HR:=H_ (HMI.out hm)
          rw [decide_eq_false hm] at HW
          go_wp2_with fail
          go_quiet ((first|(go_at_call 104;exact Calls.quiet_of_same (HN.out _))|(go_at_call 63;exact Calls.quiet_of_same (HW.out _))))
          go_wp2_with fail
          go_ret
          exact ⟨ret_bool (by rw [HVV.out,HR.out];simp),bdrewN (HAl.out _) _⟩
       ·have p0:=HP.out j hj
        have hj1:IntKind.i64.wrap ((q:Int)-1)=(j:Int):=by rw [IntKind.wrap_i64];omega
        have hj2:0<q:=by omega
        have hj3:(j:Int)<(cl:Int):=by omega
        have ejk:q-1=j:=by omega
        rw [ejk] at HFL HMO
        clear hj ejk
        generalize cA cs j=p at *
        cases r
        ·have HR:=H_ (HNA.out rfl)
         go_wp2_with fail
         go_quiet ((first|(go_at_call 104;exact Calls.quiet_of_same (HN.out _))|(go_at_call 63;exact Calls.quiet_of_same (HW.out _))))
         go_wp2_with fail
         go_ret
         exact ⟨ret_bool (by rw [HVV.out,HR.out];simp),bdrewN (HAl.out _) _⟩
        ·cases hfl:Op.bytesLess p.toList a.toList
         ·have HR:=H_ (HFL.out hj2 hfl)
          go_wp2_with fail
          go_quiet ((first|(go_at_call 104;exact Calls.quiet_of_same (HN.out _))|(go_at_call 63;exact Calls.quiet_of_same (HW.out _))))
          go_wp2_with fail
          go_ret
          exact ⟨ret_bool (by rw [HVV.out,HR.out];simp),bdrewN (HAl.out _) _⟩
         ·by_cases hm:0≤m∧m≤1000000000000
          ·have HM:=H_ (HMO.out rfl hm (fun _=>hfl))
           rw [decide_eq_true hm] at HW
           go_wp2_with fail
           go_quiet ((first|(go_at_call 104;exact Calls.quiet_of_same (HN.out _))|(go_at_call 63;exact Calls.quiet_of_same (HW.out _))))
           go_wp2_with fail
           go_roundw
           case rel=>exact ⟨q+1,by omega,by go_num,HM,H_ (bdrewN (HAl.out _) _),H_ ((HBl.out _).drewN _)⟩
           case measure=>simp [intOf];omega
          ·have HR:=H_ (HMI.out hm)
           rw [decide_eq_false hm] at HW
           go_wp2_with fail
           go_quiet ((first|(go_at_call 104;exact Calls.quiet_of_same (HN.out _))|(go_at_call 63;exact Calls.quiet_of_same (HW.out _))))
           go_wp2_with fail
           go_ret
           exact ⟨ret_bool (by rw [HVV.out,HR.out];simp),bdrewN (HAl.out _) _⟩
      ·obtain rfl:q=cl:=by omega
       have HR:Hid (csB cs=true):=H_ (cs_end (by have:=HCL.out;omega) (by rw [HCL.out];exact HK.out))
       go_wp2_with fail
       go_ret
       exact ⟨ret_bool (by rw [HVV.out,HMR.out,HR.out];rfl),HB.out⟩
end CatR
end Go.Proofs.YtnceeaccbcfopaaGreatDoor
