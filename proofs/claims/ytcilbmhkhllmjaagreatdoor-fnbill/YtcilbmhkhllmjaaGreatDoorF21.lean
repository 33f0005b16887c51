/-
  What the model calls a right catalog. The condition: all in it is small.
  The credit of an account, either side. The conditions: all in the catalog is small; the program's own error stands in its variable.
  The meter of a name, the program's MeterOf. The conditions: all in the catalog is small, the name too; the program's own error stands in its variable.
  Where a name stands among meters, as the model finds it. The condition: at most 1048576 meters.
  Blocks of three numbers. No condition.
  The model's small hands: a code alone, and a number that is none beyond. No condition.
-/
import Derived.Test.YtcilbmhkhllmjaaGreatDoorF20
namespace Go.Proofs.YtcilbmhkhllmjaaGreatDoor
open Go.ChangeShapes Go.WideShapes Go.ChangeAt Go.RowKit
set_option linter.unusedVariables false
namespace CatR
theorem blk2 {b:Nat} {x y:Value} {w:World} (hl:b<w.heap.size) (h0:w.cell? ⟨b,0,none⟩=some x) (h1:w.cell? ⟨b,1,none⟩=some y):Blk b [x,y] w:=⟨hl,fun i hi=>by
 match i,hi with
 | 0,_=>exact h0
 | 1,_=>exact h1⟩
def BS (w:World) (B b o o':Nat) (x0 x1 a0 a1 a2 a3 a4 a5 p:Value) (W:World):Prop:=Below w.heap.size w W∧B<W.heap.size∧b<W.heap.size∧W.cell? ⟨B,0,none⟩=some x0∧W.cell? ⟨B,1,none⟩=some x1∧W.cell? ⟨b,o,none⟩=some a0∧W.cell? ⟨b,o+1,none⟩=some a1∧W.cell? ⟨b,o+2,none⟩=some a2∧W.cell? ⟨b,o+3,none⟩=some a3∧W.cell? ⟨b,o+4,none⟩=some a4∧W.cell? ⟨b,o+5,none⟩=some a5∧W.cell? ⟨b,o',none⟩=some p
theorem BS.below {w:World} {B b o o':Nat} {x0 x1 a0 a1 a2 a3 a4 a5 p:Value} {W W':World} (h:BS w B b o o' x0 x1 a0 a1 a2 a3 a4 a5 p W) (hb:Below W.heap.size W W'):BS w B b o o' x0 x1 a0 a1 a2 a3 a4 a5 p W':=by
 obtain ⟨h0,l1,l2,p0,p1,q0,q1,q2,q3,q4,q5,q6⟩:=h
 have f:=fun o=>hb.cell (p:=⟨B,o,none⟩) l1
 have g:=fun o=>hb.cell (p:=⟨b,o,none⟩) l2
 have hs:=hb.size
 exact ⟨h0.trans (hb.mono h0.size),by omega,by omega,(f _).trans p0,(f _).trans p1,(g _).trans q0,(g _).trans q1,(g _).trans q2,(g _).trans q3,(g _).trans q4,(g _).trans q5,(g _).trans q6⟩
theorem BS.drew {w:World} {B b o o':Nat} {x0 x1 a0 a1 a2 a3 a4 a5 p:Value} {W:World} (h:BS w B b o o' x0 x1 a0 a1 a2 a3 a4 a5 p W):BS w B b o o' x0 x1 a0 a1 a2 a3 a4 a5 p W.drew:=⟨h.1.drew,h.2⟩
set_option maxRecDepth 100000 in
set_option maxHeartbeats 8000000 in
theorem spec_ca (v:Value) (c:Ca) (w:World) (hS:c.Small) (hC:IsCa v c w) :
 Calls Tryz.prog 34 #[v] w fun e w'=>e=.returned (.bool (caB c))∧Below w.heap.size w w':=by
 obtain ⟨ma,mc,ca,cc,rfl,hM,hR⟩:=hC
 obtain ⟨ms,cs⟩:=c
 obtain ⟨s1,s2,s3,s4⟩:=hS
 simp only at *
 obtain ⟨V,hV⟩:=mes_v hM
 have HVV:Hid (caB ⟨ms,cs⟩=(msB ms&&csB cs)):=rfl
 have HI:=H_ hV
 have HJ:=H_ hR
 have HS2:=H_ s2
 have HS4:=H_ s4
 generalize hml:ms.length=ml at *
 generalize hcl:cs.length=cl at *
 have HML:=H_ hml
 have HCL:=H_ hcl
 clear hM hV hR s2 s4 hml hcl
 have HA0:Hid (Blk w.heap.size [.slice ma ml mc,.slice ca cl cc] (w.alloc (.cells #[.slice ma ml mc,.slice ca cl cc] 36))):=H_ (Blk.new w _ _)
 have HB0:Hid (Below w.heap.size w (w.alloc (.cells #[.slice ma ml mc,.slice ca cl cc] 36))):=H_ ((Below.refl _ _).alloc (Nat.le_refl _) _)
 by_cases h6:6<ml
 ·have h6':(6:Int)<(ml:Int):=by omega
  have HR:=H_ (ms_many (ms:=ms) (by have:=HML.out;omega))
  go_enter Tryz.func34,Tryz.ntmps34
  go_wp2_with fail
  go_ret
  exact ⟨ret_bool (by rw [HVV.out,HR.out];rfl),HB0.out⟩
 ·by_cases g6:6<cl
  ·have g6':(6:Int)<(cl:Int):=by omega
   have h6':¬(6:Int)<(ml:Int):=by omega
   have HR:=H_ (cs_many (cs:=cs) (by have:=HCL.out;omega))
   go_enter Tryz.func34,Tryz.ntmps34
   go_wp2_with fail
   go_ret
   exact ⟨ret_bool (by rw [HVV.out,HR.out];simp),HB0.out⟩
  ·have g6':¬(6:Int)<(cl:Int):=by omega
   have h6':¬(6:Int)<(ml:Int):=by omega
   go_enter Tryz.func34,Tryz.ntmps34
   go_wp2_with fail
   go_loopw [3] (fun z wr=>∃k:Nat,k≤ml∧z=.int .i64 k∧Hid (MOk ms k)∧Hid (Below w.heap.size w wr)∧Hid (Blk w.heap.size [.slice ma ml mc,.slice ca cl cc] wr)) (fun z _=>ml-(intOf z).toNat)
   case atStart=>exact ⟨0,by omega,rfl,H_ (MOk.zero ms),HB0,HA0⟩
   case round =>
    obtain ⟨k,hk,rfl,HK,HB,HA⟩:=hrel
    have hbl:=HA.out.1
    have q0:wr.cell? ⟨w.heap.size,0,none⟩=some (.slice ma ml mc):=HA.out.2 0 (by simp)
    have q1:wr.cell? ⟨w.heap.size,1,none⟩=some (.slice ca cl cc):=HA.out.2 1 (by simp)
    by_cases hlt:k<ml
    ·have hlt2:(k:Int)<(ml:Int):=by omega
     have hkl:k<ms.length:=by have:=HML.out;omega
     rcases HI.out.below HB.out with h|⟨b,off,rfl,hbb,h⟩
     ·omega
     have HP:Hid (∀j,j+1=k→wr.cell? ⟨b,off+j*6,none⟩=some (.string (mN ms j))):=H_ (fun j hj=>by
      obtain ⟨_,_,_,q,_⟩:=h j (by omega)
      exact q)
     obtain ⟨ta,tc,hv,c0,c1,c2,c3,c4,c5,_⟩:=h k hlt
     clear h
     have HMR:=H_ (fun W (hW:Below w.heap.size w W)=>spec_meter (V k) (ms.getD k Me.zero) W (HS2.out k hlt).1 (HS2.out k hlt).2 ((HI.out.below hW).is k hlt))
     have HWR:=H_ (ms_wrong (ms:=ms) hkl)
     have HFL:=H_ (ms_flat (ms:=ms) hkl)
     have HMO:=H_ (fun (h1:mB (ms.getD k Me.zero)=true) h2=>HK.out.more (mB_iff.1 h1) h2)
     rw [hv] at HMR
     generalize mB (ms.getD k Me.zero)=r at *
     generalize mN ms k=n at *
     generalize (ms.getD k Me.zero).ts.length=tl at *
     generalize (ms.getD k Me.zero).g=g at *
     generalize (ms.getD k Me.zero).wh=wh at *
     generalize (ms.getD k Me.zero).f=f at *
     generalize (ms.getD k Me.zero).l=l at *
     clear hv
     rcases (show k=0∨∃j,j+1=k from by rcases k with _|j;exact .inl rfl;exact .inr ⟨j,rfl⟩) with rfl|⟨j,hj⟩
     ·have HMO0:=H_ (fun h=>HMO.out h (fun h0=>absurd h0 (by omega)))
      simp only [Nat.zero_mul,Nat.add_zero] at c0 c1 c2 c3 c4 c5
      have HS0:Hid ((BS w w.heap.size b (off) (off) (.slice (some ⟨b,off,none⟩) ml mc) (.slice ca cl cc) (.string n) (.int .i64 g) (.bool wh) (.int .i64 f) (.int .i64 l) (.slice ta tl tc) (.string n)) wr):=H_ ⟨HB.out,hbl,hbb,q0,q1,c0,c1,c2,c3,c4,c5,c0⟩
      obtain ⟨S,hS⟩:∃S:World→Prop,∀W,S W↔(BS w w.heap.size b (off) (off) (.slice (some ⟨b,off,none⟩) ml mc) (.slice ca cl cc) (.string n) (.int .i64 g) (.bool wh) (.int .i64 f) (.int .i64 l) (.slice ta tl tc) (.string n)) W:=⟨_,fun _=>Iff.rfl⟩
      have HSC:Hid (∀s:HW S,(BS w w.heap.size b (off) (off) (.slice (some ⟨b,off,none⟩) ml mc) (.slice ca cl cc) (.string n) (.int .i64 g) (.bool wh) (.int .i64 f) (.int .i64 l) (.slice ta tl tc) (.string n)) s.w):=H_ (fun s=>(hS _).1 s.h)
      have HSB:Hid (∀(s:HW S) w',Below s.w.heap.size s.w w'→S w'):=H_ (fun s w' hb=>(hS _).2 ((HSC.out s).below hb))
      have HSD:Hid (S wr.drew):=H_ ((hS _).2 HS0.out.drew)
      have hne:Nonempty (HW S):=⟨⟨_,HSD.out⟩⟩
      have e0:∀s:HW S,s.w.cell? ⟨w.heap.size,0,none⟩=some (.slice (some ⟨b,off,none⟩) ml mc):=fun s=>(HSC.out s).2.2.2.1
      have f0:∀s:HW S,s.w.cell? ⟨b,off,none⟩=some (.string n):=fun s=>(HSC.out s).2.2.2.2.2.1
      have f1:∀s:HW S,s.w.cell? ⟨b,off+1,none⟩=some (.int .i64 g):=fun s=>(HSC.out s).2.2.2.2.2.2.1
      have f2:∀s:HW S,s.w.cell? ⟨b,off+2,none⟩=some (.bool wh):=fun s=>(HSC.out s).2.2.2.2.2.2.2.1
      have f3:∀s:HW S,s.w.cell? ⟨b,off+3,none⟩=some (.int .i64 f):=fun s=>(HSC.out s).2.2.2.2.2.2.2.2.1
      have f4:∀s:HW S,s.w.cell? ⟨b,off+4,none⟩=some (.int .i64 l):=fun s=>(HSC.out s).2.2.2.2.2.2.2.2.2.1
      have f5:∀s:HW S,s.w.cell? ⟨b,off+5,none⟩=some (.slice ta tl tc):=fun s=>(HSC.out s).2.2.2.2.2.2.2.2.2.2.1
      have f6:∀s:HW S,s.w.cell? ⟨b,off,none⟩=some (.string n):=fun s=>(HSC.out s).2.2.2.2.2.2.2.2.2.2.2
      clear hS
      clear f6
      cases r
      ·have HR:=H_ (HWR.out rfl)
       go_wp2_with fail
       refine wp_region_hw S (by kernel_rfl) (by kernel_rfl) HSD.out ?_
       repeat (go_big_quiet_step ((rename_i s;go_at_call 77;refine (HMR.out _ (HSC.out s).1).mono ?_;rintro e w1 ⟨rfl,hb1⟩;exact ⟨rfl,⟨w1,HSB.out s w1 hb1⟩,rfl⟩)))
       refine wpQuiet_nil ?_
       intro _ hw'
       obtain ⟨s,hw''⟩:=hw'
       subst hw''
       have HBF:=H_ (HSC.out s).1
       go_wp2_with fail
       go_ret
       exact ⟨ret_bool (by rw [HVV.out,HR.out];rfl),HBF.out⟩
      ·have HM:=H_ (HMO0.out rfl)
       go_wp2_with fail
       refine wp_region_hw S (by kernel_rfl) (by kernel_rfl) HSD.out ?_
       repeat (go_big_quiet_step ((rename_i s;go_at_call 77;refine (HMR.out _ (HSC.out s).1).mono ?_;rintro e w1 ⟨rfl,hb1⟩;exact ⟨rfl,⟨w1,HSB.out s w1 hb1⟩,rfl⟩)))
       refine wpQuiet_nil ?_
       intro _ hw'
       obtain ⟨s,hw''⟩:=hw'
       subst hw''
       have HBF:=H_ (HSC.out s).1
       have HAF:Hid (Blk w.heap.size [.slice (some ⟨b,off,none⟩) ml mc,.slice ca cl cc] s.w):=H_ (blk2 (HSC.out s).2.1 (HSC.out s).2.2.2.1 (HSC.out s).2.2.2.2.1)
       go_wp2_with fail
       go_roundw
       case rel=>exact ⟨0+1,by omega,by go_num,HM,HBF,HAF⟩
       case measure=>simp [intOf];omega
     ·have p0:=HP.out j hj
      have hj1:IntKind.i64.wrap ((k:Int)-1)=(j:Int):=by rw [IntKind.wrap_i64];omega
      have hj2:0<k:=by omega
      have hj3:(j:Int)<(ml:Int):=by omega
      have ejk:k-1=j:=by omega
      rw [ejk] at HFL HMO
      clear hj ejk
      generalize hpn:mN ms j=pn at *
      have HPN:=H_ hpn
      clear hpn
      have HS0:Hid ((BS w w.heap.size b (off+k*6) (off+j*6) (.slice (some ⟨b,off,none⟩) ml mc) (.slice ca cl cc) (.string n) (.int .i64 g) (.bool wh) (.int .i64 f) (.int .i64 l) (.slice ta tl tc) (.string pn)) wr):=H_ ⟨HB.out,hbl,hbb,q0,q1,c0,c1,c2,c3,c4,c5,p0⟩
      obtain ⟨S,hS⟩:∃S:World→Prop,∀W,S W↔(BS w w.heap.size b (off+k*6) (off+j*6) (.slice (some ⟨b,off,none⟩) ml mc) (.slice ca cl cc) (.string n) (.int .i64 g) (.bool wh) (.int .i64 f) (.int .i64 l) (.slice ta tl tc) (.string pn)) W:=⟨_,fun _=>Iff.rfl⟩
      have HSC:Hid (∀s:HW S,(BS w w.heap.size b (off+k*6) (off+j*6) (.slice (some ⟨b,off,none⟩) ml mc) (.slice ca cl cc) (.string n) (.int .i64 g) (.bool wh) (.int .i64 f) (.int .i64 l) (.slice ta tl tc) (.string pn)) s.w):=H_ (fun s=>(hS _).1 s.h)
      have HSB:Hid (∀(s:HW S) w',Below s.w.heap.size s.w w'→S w'):=H_ (fun s w' hb=>(hS _).2 ((HSC.out s).below hb))
      have HSD:Hid (S wr.drew):=H_ ((hS _).2 HS0.out.drew)
      have hne:Nonempty (HW S):=⟨⟨_,HSD.out⟩⟩
      have e0:∀s:HW S,s.w.cell? ⟨w.heap.size,0,none⟩=some (.slice (some ⟨b,off,none⟩) ml mc):=fun s=>(HSC.out s).2.2.2.1
      have f0:∀s:HW S,s.w.cell? ⟨b,off+k*6,none⟩=some (.string n):=fun s=>(HSC.out s).2.2.2.2.2.1
      have f1:∀s:HW S,s.w.cell? ⟨b,off+k*6+1,none⟩=some (.int .i64 g):=fun s=>(HSC.out s).2.2.2.2.2.2.1
      have f2:∀s:HW S,s.w.cell? ⟨b,off+k*6+2,none⟩=some (.bool wh):=fun s=>(HSC.out s).2.2.2.2.2.2.2.1
      have f3:∀s:HW S,s.w.cell? ⟨b,off+k*6+3,none⟩=some (.int .i64 f):=fun s=>(HSC.out s).2.2.2.2.2.2.2.2.1
      have f4:∀s:HW S,s.w.cell? ⟨b,off+k*6+4,none⟩=some (.int .i64 l):=fun s=>(HSC.out s).2.2.2.2.2.2.2.2.2.1
      have f5:∀s:HW S,s.w.cell? ⟨b,off+k*6+5,none⟩=some (.slice ta tl tc):=fun s=>(HSC.out s).2.2.2.2.2.2.2.2.2.2.1
      have f6:∀s:HW S,s.w.cell? ⟨b,off+j*6,none⟩=some (.string pn):=fun s=>(HSC.out s).2.2.2.2.2.2.2.2.2.2.2
      clear hS
      cases r
      ·have HR:=H_ (HWR.out rfl)
       go_wp2_with fail
       refine wp_region_hw S (by kernel_rfl) (by kernel_rfl) HSD.out ?_
       repeat (go_big_quiet_step ((rename_i s;go_at_call 77;refine (HMR.out _ (HSC.out s).1).mono ?_;rintro e w1 ⟨rfl,hb1⟩;exact ⟨rfl,⟨w1,HSB.out s w1 hb1⟩,rfl⟩)))
       refine wpQuiet_nil ?_
       intro _ hw'
       obtain ⟨s,hw''⟩:=hw'
       subst hw''
       have HBF:=H_ (HSC.out s).1
       go_wp2_with fail
       go_ret
       exact ⟨ret_bool (by rw [HVV.out,HR.out];rfl),HBF.out⟩
      ·cases hfl:Op.bytesLess pn.toList n.toList
       ·have HR:=H_ (HFL.out hj2 hfl)
        go_wp2_with fail
        refine wp_region_hw S (by kernel_rfl) (by kernel_rfl) HSD.out ?_
        repeat (go_big_quiet_step ((rename_i s;go_at_call 77;refine (HMR.out _ (HSC.out s).1).mono ?_;rintro e w1 ⟨rfl,hb1⟩;exact ⟨rfl,⟨w1,HSB.out s w1 hb1⟩,rfl⟩)))
        refine wpQuiet_nil ?_
        intro _ hw'
        obtain ⟨s,hw''⟩:=hw'
        subst hw''
        have HBF:=H_ (HSC.out s).1
        go_wp2_with fail
        go_ret
        exact ⟨ret_bool (by rw [HVV.out,HR.out];rfl),HBF.out⟩
       ·have HM:=H_ (HMO.out rfl (fun _=>hfl))
        go_wp2_with fail
        refine wp_region_hw S (by kernel_rfl) (by kernel_rfl) HSD.out ?_
        repeat (go_big_quiet_step ((rename_i s;go_at_call 77;refine (HMR.out _ (HSC.out s).1).mono ?_;rintro e w1 ⟨rfl,hb1⟩;exact ⟨rfl,⟨w1,HSB.out s w1 hb1⟩,rfl⟩)))
        refine wpQuiet_nil ?_
        intro _ hw'
        obtain ⟨s,hw''⟩:=hw'
        subst hw''
        have HBF:=H_ (HSC.out s).1
        have HAF:Hid (Blk w.heap.size [.slice (some ⟨b,off,none⟩) ml mc,.slice ca cl cc] s.w):=H_ (blk2 (HSC.out s).2.1 (HSC.out s).2.2.2.1 (HSC.out s).2.2.2.2.1)
        go_wp2_with fail
        go_roundw
        case rel=>exact ⟨k+1,by omega,by go_num,HM,HBF,HAF⟩
        case measure=>simp [intOf];omega
    ·obtain rfl:k=ml:=by omega
     have HMR:Hid (msB ms=true):=H_ (ms_end (by have:=HML.out;omega) (by rw [HML.out];exact HK.out))
     go_wp2_with fail
     go_loopw [4] (fun z wx=>∃q:Nat,q≤cl∧z=.int .i64 q∧Hid (COk cs q)∧Hid (Below w.heap.size w wx)∧Hid (Blk w.heap.size [.slice ma k mc,.slice ca cl cc] wx)) (fun z _=>cl-(intOf z).toNat)
     case atStart=>exact ⟨0,by omega,rfl,H_ (COk.zero cs),HB,HA⟩
     case round =>
      clear HK HB HA hbl q0 q1
      obtain ⟨q,hq,rfl,HK,HB,HA⟩:=hrel
      have hbl:=HA.out.1
      have q0:wr.cell? ⟨w.heap.size,0,none⟩=some (.slice ma k mc):=HA.out.2 0 (by simp)
      have q1:wr.cell? ⟨w.heap.size,1,none⟩=some (.slice ca cl cc):=HA.out.2 1 (by simp)
      by_cases hlt:q<cl
      ·have hlt2:(q:Int)<(cl:Int):=by omega
       have hkl:q<cs.length:=by have:=HCL.out;omega
       obtain ⟨b,off,rfl,hbb,d0,d1⟩:=crs_at (HJ.out.below HB.out) q hlt
       have c0:wr.cell? ⟨b,off+q*2,none⟩=some (.string (cA cs q)):=d0
       have c1:wr.cell? ⟨b,off+q*2+1,none⟩=some (.int .i64 (cM cs q)):=d1
       have HP:Hid (∀j,j+1=q→wr.cell? ⟨b,off+j*2,none⟩=some (.string (cA cs j))):=H_ (fun j hj=>by
        obtain ⟨b',off',hbo,_,e0,_⟩:=crs_at (HJ.out.below HB.out) j (by omega)
        obtain ⟨rfl,rfl⟩:b=b'∧off=off':=by simpa using hbo
        exact e0)
       clear d0 d1
       have hsz:(cA cs q).size≤1048576:=HS4.out q hlt
       have HN:=H_ (fun w=>NameR.spec_any (cA cs q) w hsz)
       have HW:=H_ (fun w=>isS (cM cs q) 0 1000000000000 w)
       have HNA:=H_ (cs_name hkl)
       have HMI:=H_ (cs_micro hkl)
       have HFL:=H_ (cs_flat (cs:=cs) hkl)
       have HMO:=H_ (fun h1 h3 h2=>HK.out.more (k:=q) h1 h3 h2)
       generalize NameR.nameB (cA cs q)=r at *
       generalize cA cs q=a at *
       generalize cM cs q=m at *
       have HAl:=H_ (fun o=>HB.out.alloc HB.out.size o)
       have HBl:=H_ (fun o=>HA.out.alloc o)
       clear hsz
       rcases (show q=0∨∃j,j+1=q from by rcases q with _|j;exact .inl rfl;exact .inr ⟨j,rfl⟩) with rfl|⟨j,hj⟩
       ·simp only [Nat.zero_mul,Nat.add_zero] at c0 c1
        cases r
        ·have HR:=H_ (HNA.out rfl)
         go_wp2_with fail
         go_quiet ((first|(go_at_call 35;exact Calls.quiet_of_same (HN.out _))|(go_at_call 69;exact Calls.quiet_of_same (HW.out _))))
         go_wp2_with fail
         go_ret
         exact ⟨ret_bool (by rw [HVV.out,HR.out];simp),bdrewN (HAl.out _) _⟩
        ·by_cases hm:0≤m∧m≤1000000000000
         ·have HM:=H_ (HMO.out rfl hm (fun h=>absurd h (by omega)))
          rw [decide_eq_true hm] at HW
          go_wp2_with fail
          go_quiet ((first|(go_at_call 35;exact Calls.quiet_of_same (HN.out _))|(go_at_call 69;exact Calls.quiet_of_same (HW.out _))))
          go_wp2_with fail
          go_roundw
          case rel=>exact ⟨0+1,by omega,by go_num,HM,H_ (bdrewN (HAl.out _) _),H_ ((HBl.out _).drewN _)⟩
          case measure=>simp [intOf];omega
         ·have HR:=H_ (HMI.out hm)
          rw [decide_eq_false hm] at HW
          go_wp2_with fail
          go_quiet ((first|(go_at_call 35;exact Calls.quiet_of_same (HN.out _))|(go_at_call 69;exact Calls.quiet_of_same (HW.out _))))
          go_wp2_with fail
          go_ret
          exact ⟨ret_bool (by rw [HVV.out,HR.out];simp),bdrewN (HAl.out _) _⟩
       ·have p0:=HP.out j hj
        have hj1:IntKind.i64.wrap ((q:Int)-1)=(j:Int):=by rw [IntKind.wrap_i64];omega
        have hj2:0<q:=by omega
        have hj3:(j:Int)<(cl:Int):=by omega
        have ejk:q-1=j:=by omega
        rw [ejk] at HFL HMO
        clear hj ejk
        generalize cA cs j=p at *
        cases r
        ·have HR:=H_ (HNA.out rfl)
         go_wp2_with fail
         go_quiet ((first|(go_at_call 35;exact Calls.quiet_of_same (HN.out _))|(go_at_call 69;exact Calls.quiet_of_same (HW.out _))))
         go_wp2_with fail
         go_ret
         exact ⟨ret_bool (by rw [HVV.out,HR.out];simp),bdrewN (HAl.out _) _⟩
        ·cases hfl:Op.bytesLess p.toList a.toList
         ·have HR:=H_ (HFL.out hj2 hfl)
          go_wp2_with fail
          go_quiet ((first|(go_at_call 35;exact Calls.quiet_of_same (HN.out _))|(go_at_call 69;exact Calls.quiet_of_same (HW.out _))))
          go_wp2_with fail
          go_ret
          exact ⟨ret_bool (by rw [HVV.out,HR.out];simp),bdrewN (HAl.out _) _⟩
         ·by_cases hm:0≤m∧m≤1000000000000
          ·have HM:=H_ (HMO.out rfl hm (fun _=>hfl))
           rw [decide_eq_true hm] at HW
           go_wp2_with fail
           go_quiet ((first|(go_at_call 35;exact Calls.quiet_of_same (HN.out _))|(go_at_call 69;exact Calls.quiet_of_same (HW.out _))))
           go_wp2_with fail
           go_roundw
           case rel=>exact ⟨q+1,by omega,by go_num,HM,H_ (bdrewN (HAl.out _) _),H_ ((HBl.out _).drewN _)⟩
           case measure=>simp [intOf];omega
          ·have HR:=H_ (HMI.out hm)
           rw [decide_eq_false hm] at HW
           go_wp2_with fail
           go_quiet ((first|(go_at_call 35;exact Calls.quiet_of_same (HN.out _))|(go_at_call 69;exact Calls.quiet_of_same (HW.out _))))
           go_wp2_with fail
           go_ret
           exact ⟨ret_bool (by rw [HVV.out,HR.out];simp),bdrewN (HAl.out _) _⟩
      ·obtain rfl:q=cl:=by omega
       have HR:Hid (csB cs=true):=H_ (cs_end (by have:=HCL.out;omega) (by rw [HCL.out];exact HK.out))
       go_wp2_with fail
       go_ret
       exact ⟨ret_bool (by rw [HVV.out,HMR.out,HR.out];rfl),HB.out⟩
end CatR
namespace CatR
def crF (t:ByteArray):List Cr→Int
 | []=>0
 | c::cs=>if c.a=t then c.m else crF t cs
theorem crF_hit (t:ByteArray):∀(cs:List Cr) (k:Nat),k<cs.length→(∀i,i<k→cA cs i≠t)→cA cs k=t→crF t cs=cM cs k
 | [],k,h,_,_=>absurd h (by simp)
 | c::cs,0,_,_,h=>by
  rw [crF,if_pos (show c.a=t from h)];rfl
 | c::cs,k+1,hk,hn,h=>by
  rw [crF,if_neg (show ¬c.a=t from hn 0 (by omega))]
  exact crF_hit t cs k (by simpa using hk) (fun i hi=>hn (i+1) (by omega)) h
theorem crF_none (t:ByteArray):∀(cs:List Cr),(∀i,i<cs.length→cA cs i≠t)→crF t cs=0
 | [],_=>rfl
 | c::cs,hn=>by
  rw [crF,if_neg (show ¬c.a=t from hn 0 (by simp))]
  exact crF_none t cs (fun i hi=>hn (i+1) (by simpa using hi))
def crO (c:Ca) (t:ByteArray):Int:=if caB c=true then crF t c.cs else 0
theorem name_le {s:ByteArray} (h:NameR.nameB s=true):1≤s.size∧s.size≤20:=by
 rcases Nat.lt_or_ge s.size 1 with h1|h1
 ·rw [NameR.name_size (.inl h1)] at h;cases h
 ·rcases Nat.lt_or_ge 20 s.size with h2|h2
  ·rw [NameR.name_size (.inr h2)] at h;cases h
  ·exact ⟨h1,h2⟩
theorem caB_iff {c:Ca}:caB c=true↔MsRight c.ms∧CsRight c.cs:=by
 unfold caB
 rw [Bool.and_eq_true,msB_iff,csB_iff]
theorem beq_no {a t:ByteArray} (h:a≠t):(a.toList==t.toList)=false:=by
 cases e:a.toList==t.toList
 ·rfl
 ·exact absurd (toList_inj (beq_iff_eq.1 e)) h
theorem nohit_more {cs:List Cr} {t:ByteArray} {k:Nat} (h:∀i,i<k→cA cs i≠t) (hk:cA cs k≠t):∀i,i<k+1→cA cs i≠t:=fun i hi=>by
 by_cases e:i=k
 ·subst e;exact hk
 ·exact h i (by omega)
set_option maxRecDepth 100000 in
set_option maxHeartbeats 4000000 in
theorem impl_cr (v:Value) (c:Ca) (t:ByteArray) (w:World) (hS:c.Small) (hC:IsCa v c w) (hL:Laid w) :
 Calls Tryz.prog 47 #[v,.string t] w fun e w'=>e=.returned (.int .i64 (crO c t))∧Below w.heap.size w w':=by
 have HR0:Hid (∀W,Below w.heap.size w W→Calls Tryz.prog 41 #[v] W fun e w'=>e=.returned (.bool (caB c))∧Below W.heap.size W w'):=H_ (fun W hW=>impl_ca v c W hS (hC.below hW) (hL.below hW))
 obtain ⟨ma,mc,ca,cc,rfl,hM,hR⟩:=hC
 obtain ⟨ms,cs⟩:=c
 have s3:=hS.cl
 simp only at *
 have HO:Hid (crO ⟨ms,cs⟩ t=if caB ⟨ms,cs⟩=true then crF t cs else 0):=rfl
 have HJ:=H_ hR
 have HZ:Hid (cs.length=cs.length):=rfl
 clear hM hR hS hL
 generalize caB ⟨ms,cs⟩=r at *
 generalize crO ⟨ms,cs⟩ t=R at *
 generalize ms.length=ml at *
 generalize hcl:cs.length=cl at *
 have HCL:=H_ hcl
 clear hcl HZ
 have HB:Hid (Below w.heap.size w (w.alloc (.cells #[.slice ma ml mc,.slice ca cl cc] 36))):=H_ ((Below.refl _ _).alloc (Nat.le_refl _) _)
 have HA:Hid (Blk w.heap.size [.slice ma ml mc,.slice ca cl cc] (w.alloc (.cells #[.slice ma ml mc,.slice ca cl cc] 36))):=H_ (Blk.new w _ _)
 go_enter Tryz.func47,Tryz.ntmps47
 go_wp2_with fail
 refine (HR0.out _ HB.out).mono ?_
 rintro e w1 ⟨rfl,hb1⟩
 have HB1:=H_ (HB.out.trans (hb1.mono HB.out.size))
 have HA1:=H_ (HA.out.below hb1)
 have hl1:=HA1.out.1
 have q1:w1.cell? ⟨w.heap.size,1,none⟩=some (.slice ca cl cc):=HA1.out.2 1 (by simp)
 clear hb1
 cases r
 ·go_wp2_with fail
  go_ret
  exact ⟨ret_int (by rw [HO.out];rfl),HB1.out⟩
 ·go_wp2_with fail
  go_loopw [13] (fun z wr=>∃k:Nat,k≤cl∧z=.int .i64 k∧Hid (∀i,i<k→cA cs i≠t)∧Hid (Below w.heap.size w wr)) (fun z _=>cl-(intOf z).toNat)
  case atStart=>exact ⟨0,by omega,rfl,H_ (fun i hi=>absurd hi (by omega)),HB1⟩
  case round =>
   clear HB HA HB1 HA1 q1 hl1
   obtain ⟨k,hk,rfl,HN,HB⟩:=hrel
   by_cases hlt:k<cl
   ·have hlt2:(k:Int)<(cl:Int):=by omega
    obtain ⟨b,off,rfl,hbl,d0,d1⟩:=crs_at (HJ.out.below HB.out) k hlt
    have c0:wr.cell? ⟨b,off+k*2,none⟩=some (.string (cA cs k)):=d0
    have c1:wr.cell? ⟨b,off+k*2+1,none⟩=some (.int .i64 (cM cs k)):=d1
    clear d0 d1
    have HAl:=H_ (fun o=>HB.out.alloc HB.out.size o)
    by_cases e:cA cs k=t
    ·have HV:Hid (R=cM cs k):=H_ (by rw [HO.out];(first|rw [if_pos rfl]|rw [if_pos trivial]);exact crF_hit t cs k (by have:=HCL.out;omega) HN.out e)
     generalize cM cs k=m at *
     rw [e] at c0
     go_wp2_with fail
     go_ret
     exact ⟨ret_int HV.out.symm,HAl.out _⟩
    ·have HM:=H_ (nohit_more HN.out e)
     have he:=beq_no e
     generalize cA cs k=a at *
     generalize cM cs k=m at *
     clear e
     go_wp2_with fail
     go_roundw
     case rel=>exact ⟨k+1,by omega,by go_num,HM,H_ (HAl.out _)⟩
     case measure=>simp [intOf];omega
   ·obtain rfl:k=cl:=by omega
    have HV:Hid (R=0):=H_ (by rw [HO.out];(first|rw [if_pos rfl]|rw [if_pos trivial]);exact crF_none t cs (by rw [HCL.out];exact HN.out))
    go_wp2_with fail
    go_ret
    exact ⟨ret_int HV.out.symm,HB.out⟩
set_option maxRecDepth 100000 in
set_option maxHeartbeats 4000000 in
theorem spec_cr0 (v:Value) (c:Ca) (t:ByteArray) (w:World) (hS:c.Small) (hC:IsCa v c w) :
 Calls Tryz.prog 85 #[v,.string t] w fun e w'=>e=.returned (.int .i64 (crF t c.cs))∧Below w.heap.size w w':=by
 obtain ⟨ma,mc,ca,cc,rfl,hM,hR⟩:=hC
 obtain ⟨ms,cs⟩:=c
 have s3:=hS.cl
 simp only at *
 have HO:Hid (crF t cs=crF t cs):=rfl
 have HJ:=H_ hR
 have HH:=H_ (fun k=>crF_hit t cs k)
 have HE:=H_ (crF_none t cs)
 clear hM hR hS
 generalize crF t cs=R at *
 generalize ms.length=ml at *
 generalize hcl:cs.length=cl at *
 have HCL:=H_ hcl
 clear hcl HO
 have HB:Hid (Below w.heap.size w (w.alloc (.cells #[.slice ma ml mc,.slice ca cl cc] 36))):=H_ ((Below.refl _ _).alloc (Nat.le_refl _) _)
 have HA:Hid (Blk w.heap.size [.slice ma ml mc,.slice ca cl cc] (w.alloc (.cells #[.slice ma ml mc,.slice ca cl cc] 36))):=H_ (Blk.new w _ _)
 go_enter Tryz.func85,Tryz.ntmps85
 go_wp2_with fail
 go_loopw [5] (fun z wr=>∃k:Nat,k≤cl∧z=.int .i64 k∧Hid (∀i,i<k→cA cs i≠t)∧Hid (Below w.heap.size w wr)∧Hid (Blk w.heap.size [.slice ma ml mc,.slice ca cl cc] wr)) (fun z _=>cl-(intOf z).toNat)
 case atStart=>exact ⟨0,by omega,rfl,H_ (fun i hi=>absurd hi (by omega)),HB,HA⟩
 case round =>
  clear HB HA
  obtain ⟨k,hk,rfl,HN,HB,HA⟩:=hrel
  have hl1:=HA.out.1
  have q1:wr.cell? ⟨w.heap.size,1,none⟩=some (.slice ca cl cc):=HA.out.2 1 (by simp)
  by_cases hlt:k<cl
  ·have hlt2:(k:Int)<(cl:Int):=by omega
   obtain ⟨b,off,rfl,hbl,d0,d1⟩:=crs_at (HJ.out.below HB.out) k hlt
   have c0:wr.cell? ⟨b,off+k*2,none⟩=some (.string (cA cs k)):=d0
   have c1:wr.cell? ⟨b,off+k*2+1,none⟩=some (.int .i64 (cM cs k)):=d1
   clear d0 d1
   by_cases e:cA cs k=t
   ·have HV:Hid (R=cM cs k):=H_ (HH.out k (by have:=HCL.out;omega) HN.out e)
    generalize cM cs k=m at *
    rw [e] at c0
    go_wp2_with fail
    try (go_quiet (fail);go_wp2_with fail)
    go_ret
    exact ⟨ret_int HV.out.symm,by first|exact HB.out|exact bdrewN HB.out _⟩
   ·have HM:=H_ (nohit_more HN.out e)
    have he:=beq_no e
    generalize cA cs k=a at *
    generalize cM cs k=m at *
    clear e
    go_wp2_with fail
    try (go_quiet (fail);go_wp2_with fail)
    go_roundw
    case rel=>exact ⟨k+1,by omega,by go_num,HM,by first|exact HB|exact H_ (bdrewN HB.out _),by first|exact HA|exact H_ (HA.out.drewN _)⟩
    case measure=>simp [intOf];omega
  ·obtain rfl:k=cl:=by omega
   have HV:Hid (R=0):=H_ (HE.out HN.out)
   go_wp2_with fail
   go_ret
   exact ⟨ret_int HV.out.symm,HB.out⟩
end CatR
namespace CatR
open EvtR (Pt)
def mFd (t:ByteArray):List Me→Me
 | []=>Me.zero
 | m::ms=>bif m.n.toList==t.toList then m else mFd t ms
def mO (c:Ca) (t:ByteArray):Me:=bif caB c then mFd t c.ms else Me.zero
theorem mFd_hit (t:ByteArray):∀(ms:List Me) (k:Nat),k<ms.length→(∀i,i<k→mN ms i≠t)→mN ms k=t→mFd t ms=ms.getD k Me.zero
 | [],k,hk,_,_=>by simp at hk
 | m::ms,0,_,_,h=>by
  have h:m.n=t:=h
  rw [mFd,h]
  simp
 | m::ms,k+1,hk,hn,h=>by
  have h0:m.n≠t:=hn 0 (by omega)
  have hb:(m.n.toList==t.toList)=false:=beq_no h0
  rw [mFd,hb,cond_false]
  have:=mFd_hit t ms k (by simpa using hk) (fun i hi=>hn (i+1) (by omega)) h
  rw [this]
  rfl
theorem mFd_none (t:ByteArray):∀(ms:List Me),(∀i,i<ms.length→mN ms i≠t)→mFd t ms=Me.zero
 | [],_=>rfl
 | m::ms,hn=>by
  have h0:m.n≠t:=hn 0 (by simp)
  rw [mFd,beq_no h0,cond_false]
  exact mFd_none t ms (fun i hi=>hn (i+1) (by simpa using hi))
theorem ms_rise {ms:List Me} (h:MsRight ms):∀i,i<ms.length→∀j,j<i→lt (mN ms j) (mN ms i)=true
 | 0,_=>fun j hj=>absurd hj (by omega)
 | i+1,hi=>fun j hj=>by
  have h1:=(h.2 (i+1) hi).2 (by omega)
  rw [Nat.add_sub_cancel] at h1
  by_cases q:j=i
  ·subst q;exact h1
  ·exact lt_trans (ms_rise h i (by omega) j (by omega)) h1
theorem ms_apart {ms:List Me} (h:MsRight ms):∀i j,i<ms.length→j<ms.length→mN ms i=mN ms j→i=j:=by
 intro i j hi hj e
 rcases (show i<j∨i=j∨j<i by omega) with q|q|q
 ·have:=ms_rise h j hj i q
  rw [e,lt_irrefl] at this
  cases this
 ·exact q
 ·have:=ms_rise h i hi j q
  rw [e,lt_irrefl] at this
  cases this
theorem name_cases (ms:List Me) (h:MsRight ms) (t:ByteArray):(∃k,k<ms.length∧mN ms k=t∧mFd t ms=ms.getD k Me.zero)∨((∀i,i<ms.length→mN ms i≠t)∧mFd t ms=Me.zero):=by
 by_cases q:∃k,k<ms.length∧mN ms k=t
 ·obtain ⟨k,hk,he⟩:=q
  refine .inl ⟨k,hk,he,mFd_hit t ms k hk (fun i hi e=>?_) he⟩
  have:=ms_apart h i k (by omega) hk (by rw [e,he])
  omega
 ·have q2:∀i,i<ms.length→mN ms i≠t:=fun i hi e=>q ⟨i,hi,e⟩
  exact .inr ⟨q2,mFd_none t ms q2⟩
theorem pt_grown {g m:Nat} {w w':World} {row:Option Nat} (h:Pt g m w) (hg:w.grownBy w' row) (hne:some g≠row):Pt g m w':=by
 have e:=hg.block g h.lt hne
 exact ⟨by have:=hg.size;have:=h.lt;omega,fun o ho=>by obtain ⟨v,hv⟩:=h.has o ho;exact ⟨v,(World.cell?_of_block (a:=⟨g,o,none⟩) e).trans hv⟩,fun o ho=>(World.frozen?_of_block (a:=⟨g,o,none⟩) e).trans (h.free o ho)⟩
theorem res_zero {w w':World} (hb:Below w.heap.size w w'):ResM w Me.zero (.returned (.agg #[.string ⟨#[]⟩,.int .i64 0,.bool false,.int .i64 0,.int .i64 0,.slice none 0 0])) w':=⟨none,0,rfl,Tis.nil _ _,.inl rfl,hb⟩
set_option maxRecDepth 100000 in
set_option maxHeartbeats 8000000 in
theorem impl_mo (v:Value) (c:Ca) (t:ByteArray) (w:World) (ht:t.size≤1048576) (hS:c.Small) (hC:IsCa v c w) (hL:Laid w) :
 Calls Tryz.prog 93 #[v,.string t] w fun e w'=>ResM w (mO c t) e w':=by
 have H1:=H_ (fun W (hW:Below w.heap.size w W)=>impl_ca v c W hS (hC.below hW) (hL.below hW))
 obtain ⟨ma,mc,ca,cc,rfl,hM,hR⟩:=hC
 obtain ⟨V,hV⟩:=mes_v hM
 have HB0:Hid (Below w.heap.size w ((w.alloc (.cells #[.slice ma c.ms.length mc,.slice ca c.cs.length cc] 36)).alloc (.cells #[.string ⟨#[]⟩,.int .i64 0,.bool false,.int .i64 0,.int .i64 0,.slice none 0 0] 117))):=H_ (((Below.refl _ _).alloc (Nat.le_refl _) _).alloc (by simp) _)
 have HC0:Hid (Blk w.heap.size [.slice ma c.ms.length mc,.slice ca c.cs.length cc] ((w.alloc (.cells #[.slice ma c.ms.length mc,.slice ca c.cs.length cc] 36)).alloc (.cells #[.string ⟨#[]⟩,.int .i64 0,.bool false,.int .i64 0,.int .i64 0,.slice none 0 0] 117))):=H_ ((Blk.new w _ _).alloc _)
 have HQ0:Hid (Pt (w.heap.size+1) 6 ((w.alloc (.cells #[.slice ma c.ms.length mc,.slice ca c.cs.length cc] 36)).alloc (.cells #[.string ⟨#[]⟩,.int .i64 0,.bool false,.int .i64 0,.int .i64 0,.slice none 0 0] 117))):=H_ (by have:=pt_new (w.alloc (.cells #[.slice ma c.ms.length mc,.slice ca c.cs.length cc] 36)) [.string ⟨#[]⟩,.int .i64 0,.bool false,.int .i64 0,.int .i64 0,.slice none 0 0] 117;simpa using this)
 have HMO:Hid (mO c t=bif caB c then mFd t c.ms else Me.zero):=rfl
 have HIF:Hid (caB c=true↔MsRight c.ms∧CsRight c.cs):=H_ caB_iff
 generalize caB c=r at *
 generalize mO c t=RES at *
 cases r
 ·rw [cond_false] at HMO
  obtain rfl:=HMO.out
  generalize c.ms.length=ml at *
  generalize c.cs.length=cl at *
  clear hM hR hV hS HIF
  go_enter Tryz.func93,Tryz.ntmps93
  go_wp2_with fail
  refine (H1.out _ HB0.out).mono ?_
  rintro e w1 ⟨rfl,hb1⟩
  have HB1:=H_ (HB0.out.trans (hb1.mono HB0.out.size))
  have HQ2:=H_ (HQ0.out.below hb1)
  clear hb1
  have q:=HQ2.out.lt
  obtain ⟨y0,e0⟩:=HQ2.out.has 0 (by omega)
  obtain ⟨y1,e1⟩:=HQ2.out.has 1 (by omega)
  obtain ⟨y2,e2⟩:=HQ2.out.has 2 (by omega)
  obtain ⟨y3,e3⟩:=HQ2.out.has 3 (by omega)
  obtain ⟨y4,e4⟩:=HQ2.out.has 4 (by omega)
  obtain ⟨y5,e5⟩:=HQ2.out.has 5 (by omega)
  have z0:=HQ2.out.free 0 (by omega)
  have z1:=HQ2.out.free 1 (by omega)
  have z2:=HQ2.out.free 2 (by omega)
  have z3:=HQ2.out.free 3 (by omega)
  have z4:=HQ2.out.free 4 (by omega)
  have z5:=HQ2.out.free 5 (by omega)
  go_wp2_with fail
  refine bodyPost_ret (v:=.agg #[.string ⟨#[]⟩,.int .i64 0,.bool false,.int .i64 0,.int .i64 0,.slice none 0 0]) (by simp [results,Tryz.results93,go_sem,e0,e1,e2,e3,e4,e5]) rfl (res_zero ?_)
  exact (((((HB1.out.setCell (by simp) _).setCell (by simp) _).setCell (by simp) _).setCell (by simp) _).setCell (by simp) _).setCell (by simp) _
 ·rw [cond_true] at HMO
  obtain ⟨hms,_⟩:=HIF.out.1 rfl
  have HBN:=H_ (fun W (hW:Below w.heap.size w W)=>byName_any ma c.ms.length mc c.ms V W hms.1 (fun i hi=>(hS.ms i hi).1) (hV.below hW))
  generalize hml:c.ms.length=ml at *
  generalize c.cs.length=cl at *
  go_enter Tryz.func93,Tryz.ntmps93
  go_wp2_with fail
  refine (H1.out _ HB0.out).mono ?_
  rintro e w1 ⟨rfl,hb1⟩
  have HB1:=H_ (HB0.out.trans (hb1.mono HB0.out.size))
  have HC1:=H_ (HC0.out.below hb1)
  have HQ1:=H_ (HQ0.out.below hb1)
  clear hb1
  have x0:w1.cell? ⟨w.heap.size,0,none⟩=some (.slice ma ml mc):=HC1.out.2 0 (by simp)
  have xl:=HC1.out.1
  go_wp2_with fail
  refine (HBN.out _ HB1.out).mono ?_
  rintro e w2 ⟨rfl,hown2,hb2⟩
  have HB2:=H_ (HB1.out.trans (hb2.mono HB1.out.size))
  have HQ2:=H_ (HQ1.out.below hb2)
  have HO2:=H_ hown2
  clear hb2 hown2 x0 xl
  obtain ⟨hl2,a0,hl3⟩:=hL.below HB2.out
  rcases name_cases c.ms hms t with ⟨k,hk,hkt,hkf⟩|⟨hno,hkf⟩
  ·obtain ⟨ta,tc,hvk,hTk⟩:=hV.is k (by omega)
   have hmr:=(hms.2 k hk).1
   have ht1:=hmr.2.2.2.2.1
   have ht5:=hmr.2.2.2.2.2.1
   have hap:=ms_apart hms
   rw [hml] at hap
   have HT:=H_ (take_has w1.heap.size ml (mapD c.ms V ml) t _ _ _ _ _ _ _ _ w2 ht HO2.out ((has_mapD c.ms V t ml).2 ⟨k,by omega,hkt⟩) (fun z=>by rw [←hkt,at_mapD c.ms V z ml hap k (by omega),hvk]))
   rw [hkf] at HMO
   have HCP:Hid (∀W,Below w.heap.size w W→Calls Tryz.prog 125 #[.agg #[.string (c.ms.getD k Me.zero).n,.int .i64 (c.ms.getD k Me.zero).g,.bool (c.ms.getD k Me.zero).wh,.int .i64 (c.ms.getD k Me.zero).f,.int .i64 (c.ms.getD k Me.zero).l,.slice ta (c.ms.getD k Me.zero).ts.length tc]] W fun e w'=>ResM W (c.ms.getD k Me.zero) e w'):=H_ (fun W hW=>by
    rcases hTk.2 with h0|⟨b,off,rfl,_⟩
    ·omega
    ·exact copy_me b off tc _ W ht1 ht5 (hS.ms k hk).1 (hTk.below hW))
   have HIS:=H_ (fun w=>IsR.is_nil a0 w)
   generalize c.ms.getD k Me.zero=X at *
   obtain ⟨n,g,wh,f,l,ts⟩:=X
   obtain rfl:=HMO.out
   simp only at HT HCP
   clear hvk hTk hmr ht1 ht5 hap hkf HMO HBN hV hM hR hS hms HIF
   go_wp2_with fail
   refine HT.out.mono ?_
   rintro e w3 ⟨rfl,hown3,hg3⟩
   have HB3:=H_ (HB2.out.grown hg3 HB2.out.size (fun q e=>by cases e;exact HB1.out.size))
   have g0:w3.cell? ⟨0,0,none⟩=some (.iface 265 (.pointer (some a0))):=(World.cell?_of_block (a:=⟨0,0,none⟩) (hg3.block _ hl2 (fun e=>by simp at e;have:=hL.1;have:=HB1.out.size;omega))).trans hl3
   have gl:0<w3.heap.size:=by have:=hg3.size;omega
   have HQ3:Hid (Pt (w.heap.size+1) 6 w3):=H_ (pt_grown HQ2.out hg3 (fun e=>by simp at e;have:=HQ1.out.lt;omega))
   clear hown3 hg3
   go_wp2_with (go_at_call 121;refine (HIS.out _).mono ?_;rintro e w' ⟨rfl,rfl⟩)
   have HBa:=H_ (HB3.out.alloc HB3.out.size (.cells #[.string n,.int .i64 g,.bool wh,.int .i64 f,.int .i64 l,.slice ta ts.length tc] 117))
   refine (HCP.out _ HBa.out).mono ?_
   rintro e w4 ⟨ta',tc',rfl,hT4,hO4,hb4⟩
   simp only at hT4 hO4
   have HB4:=H_ (HBa.out.trans (hb4.mono HBa.out.size))
   have HQ4:=H_ ((HQ3.out.below ((Below.refl _ _).alloc (Nat.le_refl _) (.cells #[.string n,.int .i64 g,.bool wh,.int .i64 f,.int .i64 l,.slice ta ts.length tc] 117))).below hb4)
   have HT4:=H_ hT4
   have HO4:Hid (ts.length=0∨∃g,ta'=some ⟨g,0,none⟩∧w3.heap.size≤g∧Pt g (ts.length*2) w4):=H_ (hO4.imp id (fun ⟨g,h1,h2,h3⟩=>⟨g,h1,by simp at h2;omega,h3⟩))
   have hq3:=HQ3.out.lt
   have hw3:=HB3.out.size
   clear hT4 hO4 hb4 g0
   have q:=HQ4.out.lt
   obtain ⟨y0,e0⟩:=HQ4.out.has 0 (by omega)
   obtain ⟨y1,e1⟩:=HQ4.out.has 1 (by omega)
   obtain ⟨y2,e2⟩:=HQ4.out.has 2 (by omega)
   obtain ⟨y3,e3⟩:=HQ4.out.has 3 (by omega)
   obtain ⟨y4,e4⟩:=HQ4.out.has 4 (by omega)
   obtain ⟨y5,e5⟩:=HQ4.out.has 5 (by omega)
   have z0:=HQ4.out.free 0 (by omega)
   have z1:=HQ4.out.free 1 (by omega)
   have z2:=HQ4.out.free 2 (by omega)
   have z3:=HQ4.out.free 3 (by omega)
   have z4:=HQ4.out.free 4 (by omega)
   have z5:=HQ4.out.free 5 (by omega)
   go_wp2_with fail
   refine bodyPost_ret (v:=.agg #[.string n,.int .i64 g,.bool wh,.int .i64 f,.int .i64 l,.slice ta' ts.length tc']) (by simp [results,Tryz.results93,go_sem,e0,e1,e2,e3,e4,e5]) rfl ⟨ta',tc',rfl,?_,?_,?_⟩
   ·rcases Nat.eq_zero_or_pos ts.length with h0|h0
    ·exact ⟨rfl,.inl h0⟩
    ·obtain ⟨g',e1,e2,e3⟩:=HO4.out.resolve_left (by omega)
     subst e1
     exact (((((HT4.out.far (by omega) _ _).far (by omega) _ _).far (by omega) _ _).far (by omega) _ _).far (by omega) _ _).far (by omega) _ _
   ·refine HO4.out.imp id (fun ⟨g',e1,e2,e3⟩=>⟨g',e1,by omega,?_⟩)
    exact (((((e3.far (by omega) _ _).far (by omega) _ _).far (by omega) _ _).far (by omega) _ _).far (by omega) _ _).far (by omega) _ _
   ·exact (((((HB4.out.setCell (by simp) _).setCell (by simp) _).setCell (by simp) _).setCell (by simp) _).setCell (by simp) _).setCell (by simp) _
  ·have hnh:Maps.has (mapD c.ms V ml) (kS t)=false:=by
    cases hh:Maps.has (mapD c.ms V ml) (kS t)
    ·rfl
    ·obtain ⟨q,hq,hqe⟩:=(has_mapD c.ms V t ml).1 hh
     exact absurd hqe (hno q (by omega))
   have HT:=H_ (take_no w1.heap.size ml (mapD c.ms V ml) t w2 ht HO2.out hnh a0 hl2 hl3)
   rw [hkf] at HMO
   obtain rfl:=HMO.out
   have HIS:=H_ (fun w=>IsR.is_same a0 w)
   clear hnh hno hkf HMO HBN hV hM hR hS hms HIF
   go_wp2_with fail
   refine HT.out.mono ?_
   rintro e w3 ⟨rfl,hb3⟩
   have HB3:=H_ (HB2.out.trans (hb3.mono HB2.out.size))
   have g0:w3.cell? ⟨0,0,none⟩=some (.iface 265 (.pointer (some a0))):=(hb3.cell (p:=⟨0,0,none⟩) hl2).trans hl3
   have gl:0<w3.heap.size:=by have:=hb3.size;omega
   have HQ3:=H_ (HQ2.out.below hb3)
   have HQ4:=H_ (HQ3.out.below ((Below.refl _ _).alloc (Nat.le_refl _) (.cells #[.string ⟨#[]⟩,.int .i64 0,.bool false,.int .i64 0,.int .i64 0,.slice none 0 0] 117)))
   have HB4:=H_ (HB3.out.alloc HB3.out.size (.cells #[.string ⟨#[]⟩,.int .i64 0,.bool false,.int .i64 0,.int .i64 0,.slice none 0 0] 117))
   clear hb3
   go_wp2_with fail
   refine (HIS.out _).mono ?_
   rintro e w5 ⟨rfl,hw5⟩
   have HQ5:Hid (Pt (w.heap.size+1) 6 w5):=H_ (by rw [hw5];exact HQ4.out)
   have HB5:Hid (Below w.heap.size w w5):=H_ (by rw [hw5];exact HB4.out)
   clear hw5 HB4 HQ4 g0 gl
   have q:=HQ5.out.lt
   obtain ⟨y0,e0⟩:=HQ5.out.has 0 (by omega)
   obtain ⟨y1,e1⟩:=HQ5.out.has 1 (by omega)
   obtain ⟨y2,e2⟩:=HQ5.out.has 2 (by omega)
   obtain ⟨y3,e3⟩:=HQ5.out.has 3 (by omega)
   obtain ⟨y4,e4⟩:=HQ5.out.has 4 (by omega)
   obtain ⟨y5,e5⟩:=HQ5.out.has 5 (by omega)
   have z0:=HQ5.out.free 0 (by omega)
   have z1:=HQ5.out.free 1 (by omega)
   have z2:=HQ5.out.free 2 (by omega)
   have z3:=HQ5.out.free 3 (by omega)
   have z4:=HQ5.out.free 4 (by omega)
   have z5:=HQ5.out.free 5 (by omega)
   go_wp2_with fail
   refine bodyPost_ret (v:=.agg #[.string ⟨#[]⟩,.int .i64 0,.bool false,.int .i64 0,.int .i64 0,.slice none 0 0]) (by simp [results,Tryz.results93,go_sem,e0,e1,e2,e3,e4,e5]) rfl (res_zero ?_)
   exact (((((HB5.out.setCell (by simp) _).setCell (by simp) _).setCell (by simp) _).setCell (by simp) _).setCell (by simp) _).setCell (by simp) _
end CatR
namespace CatR
open EvtR (Pt)
theorem beq_noA {a t:ByteArray} (h:a≠t):(a.toList==t.toList)=false:=by
 simpa using fun q=>h (LtR.toList_inj q)
def atB (ms:List Me) (t:ByteArray) (r:Int):Prop:=(∃k:Nat,k<ms.length∧r=k∧mN ms k=t∧∀i,i<k→mN ms i≠t)∨(r=-1∧∀i,i<ms.length→mN ms i≠t)
set_option maxRecDepth 100000 in
set_option maxHeartbeats 4000000 in
theorem spec_at (ma:Option Addr) (mc:Nat) (ca:Option Addr) (cl cc:Nat) (ms:List Me) (t:ByteArray) (w:World) (hl:ms.length≤1048576) (hM:Mes ma ms.length ms w) :
 Calls Tryz.prog 81 #[.agg #[.slice ma ms.length mc,.slice ca cl cc],.string t] w fun e w'=>∃r,e=.returned (.int .i64 r)∧atB ms t r∧Below w.heap.size w w':=by
 have HM:=H_ hM
 have HA:Hid (∀r,(∃k:Nat,k<ms.length∧r=(k:Int)∧mN ms k=t∧∀i,i<k→mN ms i≠t)∨(r=-1∧∀i,i<ms.length→mN ms i≠t)→atB ms t r):=H_ (fun r h=>h)
 have HB0:Hid (Below w.heap.size w (w.alloc (.cells #[.slice ma ms.length mc,.slice ca cl cc] 36))):=H_ ((Below.refl _ _).alloc (Nat.le_refl _) _)
 have HX0:Hid (Blk w.heap.size [.slice ma ms.length mc,.slice ca cl cc] (w.alloc (.cells #[.slice ma ms.length mc,.slice ca cl cc] 36))):=H_ (Blk.new w _ _)
 generalize hml:ms.length=ml at *
 clear hM
 go_enter Tryz.func81,Tryz.ntmps81
 go_wp2_with fail
 go_loopw [5] (fun z wr=>∃k:Nat,k≤ml∧z=.int .i64 k∧Hid (∀i,i<k→mN ms i≠t)∧Hid (Below w.heap.size w wr)∧Hid (Blk w.heap.size [.slice ma ml mc,.slice ca cl cc] wr)) (fun z _=>ml-(intOf z).toNat)
 case atStart=>exact ⟨0,by omega,rfl,H_ (fun i h=>absurd h (by omega)),HB0,HX0⟩
 case round =>
  obtain ⟨k,hk,rfl,HK,HB,HX⟩:=hrel
  have x0:wr.cell? ⟨w.heap.size,0,none⟩=some (.slice ma ml mc):=HX.out.2 0 (by simp)
  have xl:=HX.out.1
  by_cases hlt:k<ml
  ·have hlt2:(k:Int)<(ml:Int):=by omega
   obtain ⟨b,off,rfl,hbl,ta,tc,c0,c1,c2,c3,c4,c5,hTT⟩:=mes_at (HM.out.below HB.out) k hlt
   replace c0:wr.cell? ⟨b,off+k*6,none⟩=some (.string (mN ms k)):=c0
   clear c1 c2 c3 c4 c5 hTT
   by_cases he:mN ms k=t
   ·have HR:=H_ (HA.out (k:Int) (.inl ⟨k,hlt,rfl,he,HK.out⟩))
    rw [he] at c0
    clear he
    go_wp2_with fail
    go_ret
    exact ⟨_,rfl,HR.out,HB.out⟩
   ·have HK2:Hid (∀i,i<k+1→mN ms i≠t):=H_ (fun i hi=>by
     by_cases e:i=k
     ·subst e;exact he
     ·exact HK.out i (by omega))
    have hb:=beq_noA he
    have hne:(mN ms k).toList≠t.toList:=by simpa using hb
    clear he
    generalize mN ms k=n at *
    go_wp2_with fail
    go_roundw
    case rel=>exact ⟨k+1,by omega,by go_num,HK2,HB,HX⟩
    case measure=>simp [intOf];omega
  ·have hlt2:¬(k:Int)<(ml:Int):=by omega
   have HR:=H_ (HA.out (-1) (.inr ⟨rfl,fun i hi=>HK.out i (by omega)⟩))
   go_wp2_with fail
   go_ret
   exact ⟨_,rfl,HR.out,HB.out⟩
end CatR
namespace CatR
open FixR (In Thrown out)
theorem below3 {w W:World} (hb:Below w.heap.size w W) {p:Nat} (hp:w.heap.size≤p) (x y z:Value):Below w.heap.size w (((W.setCell ⟨p,0,none⟩ x).setCell ⟨p,1,none⟩ y).setCell ⟨p,2,none⟩ z) :=
 ((hb.setCell (p:=⟨p,0,none⟩) hp _).setCell (p:=⟨p,1,none⟩) hp _).setCell (p:=⟨p,2,none⟩) hp _
def Z3 (p:Nat) (w:World):Prop:=p<w.heap.size∧(∃x,w.cell? ⟨p,0,none⟩=some x)∧(∃x,w.cell? ⟨p,1,none⟩=some x)∧(∃x,w.cell? ⟨p,2,none⟩=some x)∧w.frozen? ⟨p,0,none⟩=false∧w.frozen? ⟨p,1,none⟩=false∧w.frozen? ⟨p,2,none⟩=false
theorem Z3.below {p:Nat} {w w':World} (h:Z3 p w) (hb:Below w.heap.size w w'):Z3 p w':=by
 obtain ⟨hl,⟨x0,h0⟩,⟨x1,h1⟩,⟨x2,h2⟩,z0,z1,z2⟩:=h
 have c:=fun o=>hb.cell (p:=⟨p,o,none⟩) hl
 have z:=fun o=>hb.frozen (p:=⟨p,o,none⟩) hl
 exact ⟨by have:=hb.size;omega,⟨x0,(c 0).trans h0⟩,⟨x1,(c 1).trans h1⟩,⟨x2,(c 2).trans h2⟩,(z 0).trans z0,(z 1).trans z1,(z 2).trans z2⟩
theorem Z3.new (w:World) (T:TypeId):Z3 w.heap.size (w.alloc (Obj.cells #[.int .i64 0,.int .i64 0,.int .i64 0] T)) :=
 ⟨by simp,⟨_,by simp [go_sem];rfl⟩,⟨_,by simp [go_sem];rfl⟩,⟨_,by simp [go_sem];rfl⟩,by simp [go_sem],by simp [go_sem],by simp [go_sem]⟩
end CatR
namespace FixR
theorem ill_any (code:Int) (w:World):Calls Tryz.prog 140 #[.int .i64 code] w fun e w'=>e=.returned (out 0 code)∧Below w.heap.size w w':=by
 go_enter Tryz.func140,Tryz.ntmps140
 go_wp2
 refine bodyPost_ret (v:=out 0 code) (by simp [out,results,Tryz.results140,go_sem]) rfl ⟨rfl,?_⟩
 repeat' first|exact Below.refl _ _|apply Below.setCell|apply Below.alloc
 all_goals first|omega|(simp;done)|(simp;omega)
theorem outS_in (v:Int) (hv:In v) (w:World):Calls Tryz.prog 116 #[.int .i64 v] w fun e w'=>e=.returned (out v 0)∧Below w.heap.size w w':=by
 obtain ⟨h1,h2⟩:=hv
 go_enter Tryz.func116,Tryz.ntmps116
 go_wp2
 refine bodyPost_ret (v:=out v 0) (by simp [out,results,Tryz.results116,go_sem]) rfl ⟨rfl,?_⟩
 repeat' first|exact Below.refl _ _|apply Below.setCell|apply Below.alloc
 all_goals first|omega|(simp;done)|(simp;omega)
theorem outS_over (v:Int) (hv:¬In v) (w:World):Calls Tryz.prog 116 #[.int .i64 v] w fun e w'=>e=.returned (out 0 12)∧Below w.heap.size w w':=by
 have key:(¬-1000000000000000≤v)∨(-1000000000000000≤v∧¬v≤1000000000000000):=by unfold In at hv;omega
 clear hv
 rcases key with h1|⟨h1,h2⟩
 all_goals
  go_enter Tryz.func116,Tryz.ntmps116
  go_wp2_with (first|(go_at_call 69;go_in)|(go_at_call 72;go_in)|(go_at_call 140;refine (ill_any _ _).mono ?_;rintro e w2 ⟨rfl,hb⟩;unfold out;obtain ⟨hc,hz⟩:=bcell hb))
  refine bodyPost_ret (v:=out 0 12) (by simp [out,results,Tryz.results116,go_sem,hc]) rfl ⟨rfl,?_⟩
  exact (((bel_alloc hb).setCell (by simp) _).setCell (by simp) _).setCell (by simp) _
end FixR
end Go.Proofs.YtcilbmhkhllmjaaGreatDoor
