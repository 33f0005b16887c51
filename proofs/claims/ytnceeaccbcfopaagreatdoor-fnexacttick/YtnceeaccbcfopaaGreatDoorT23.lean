/-
  What the model calls a right catalog.
  What the model calls a window's right tags.
  What the model calls a window's right hours.
  The conditions stand in what each theorem says.
-/
import Derived.Test.YtnceeaccbcfopaaGreatDoorT22
set_option maxRecDepth 100000
set_option maxHeartbeats 16000000
namespace Go.Proofs.YtnceeaccbcfopaaGreatDoor
open Go.ChangeShapes Go.WideShapes Go.ChangeAt Go.RowKit
set_option linter.unusedVariables false
namespace CatR
theorem blk2 {b:Nat} {x y:Value} {w:World} (hl:b<w.heap.size) (h0:w.cell? ⟨b,0,none⟩=some x) (h1:w.cell? ⟨b,1,none⟩=some y):Blk b [x,y] w:=⟨hl,fun i hi=>by
 match i,hi with
 | 0,_=>exact h0
 | 1,_=>exact h1⟩
def BS (w:World) (B b o o':Nat) (x0 x1 a0 a1 a2 a3 a4 a5 p:Value) (W:World):Prop:=Below w.heap.size w W∧B<W.heap.size∧b<W.heap.size∧W.cell? ⟨B,0,none⟩=some x0∧W.cell? ⟨B,1,none⟩=some x1∧W.cell? ⟨b,o,none⟩=some a0∧W.cell? ⟨b,o+1,none⟩=some a1∧W.cell? ⟨b,o+2,none⟩=some a2∧W.cell? ⟨b,o+3,none⟩=some a3∧W.cell? ⟨b,o+4,none⟩=some a4∧W.cell? ⟨b,o+5,none⟩=some a5∧W.cell? ⟨b,o',none⟩=some p
theorem BS.below {w:World} {B b o o':Nat} {x0 x1 a0 a1 a2 a3 a4 a5 p:Value} {W W':World} (h:BS w B b o o' x0 x1 a0 a1 a2 a3 a4 a5 p W) (hb:Below W.heap.size W W'):BS w B b o o' x0 x1 a0 a1 a2 a3 a4 a5 p W':=by
 obtain ⟨h0,l1,l2,p0,p1,q0,q1,q2,q3,q4,q5,q6⟩:=h
 have f:=fun o=>hb.cell (p:=⟨B,o,none⟩) l1
 have g:=fun o=>hb.cell (p:=⟨b,o,none⟩) l2
 have hs:=hb.size
 exact ⟨h0.trans (hb.mono h0.size),by omega,by omega,(f _).trans p0,(f _).trans p1,(g _).trans q0,(g _).trans q1,(g _).trans q2,(g _).trans q3,(g _).trans q4,(g _).trans q5,(g _).trans q6⟩
theorem BS.drew {w:World} {B b o o':Nat} {x0 x1 a0 a1 a2 a3 a4 a5 p:Value} {W:World} (h:BS w B b o o' x0 x1 a0 a1 a2 a3 a4 a5 p W):BS w B b o o' x0 x1 a0 a1 a2 a3 a4 a5 p W.drew:=⟨h.1.drew,h.2⟩
theorem spec_ca (v:Value) (c:Ca) (w:World) (hS:c.Small) (hC:IsCa v c w) :
 Calls Tryz.prog 51 #[v] w fun e w'=>e=.returned (.bool (caB c))∧Below w.heap.size w w':=by
 obtain ⟨ma,mc,ca,cc,rfl,hM,hR⟩:=hC
 obtain ⟨ms,cs⟩:=c
 obtain ⟨s1,s2,s3,s4⟩:=hS
 simp only at *
 obtain ⟨V,hV⟩:=mes_v hM
 have HVV:Hid (caB ⟨ms,cs⟩=(msB ms&&csB cs)):=rfl
 have HI:=H_ hV
 have HJ:=H_ hR
 have HS2:=H_ s2
 have HS4:=H_ s4
 generalize hml:ms.length=ml at *
 generalize hcl:cs.length=cl at *
 have HML:=H_ hml
 have HCL:=H_ hcl
 clear hM hV hR s2 s4 hml hcl
 have HA0:Hid (Blk w.heap.size [.slice ma ml mc,.slice ca cl cc] (w.alloc (.cells #[.slice ma ml mc,.slice ca cl cc] 36))):=H_ (Blk.new w _ _)
 have HB0:Hid (Below w.heap.size w (w.alloc (.cells #[.slice ma ml mc,.slice ca cl cc] 36))):=H_ (al_ _ _)
 by_cases h6:6<ml
 ·have h6':(6:Int)<(ml:Int):=by omega
  have HR:=H_ (ms_many (ms:=ms) (by have:=HML.out;omega))
  go_enter Tryz.func51,Tryz.ntmps51
  go_wp2_with fail
  go_ret
  exact ⟨ret_bool (by rw [HVV.out,HR.out];rfl),HB0.out⟩
 ·by_cases g6:6<cl
  ·have g6':(6:Int)<(cl:Int):=by omega
   have h6':¬(6:Int)<(ml:Int):=by omega
   have HR:=H_ (cs_many (cs:=cs) (by have:=HCL.out;omega))
   go_enter Tryz.func51,Tryz.ntmps51
   go_wp2_with fail
   go_ret
   exact ⟨ret_bool (by rw [HVV.out,HR.out];simp),HB0.out⟩
  ·have g6':¬(6:Int)<(cl:Int):=by omega
   have h6':¬(6:Int)<(ml:Int):=by omega
   go_enter Tryz.func51,Tryz.ntmps51
   go_wp2_with fail
   go_loopw [3] (fun z wr=>∃k:Nat,k≤ml∧z=.int .i64 k∧Hid (MOk ms k)∧Hid (Below w.heap.size w wr)∧Hid (Blk w.heap.size [.slice ma ml mc,.slice ca cl cc] wr)) (fun z _=>ml-(intOf z).toNat)
   case atStart=>exact ⟨0,by omega,rfl,H_ (MOk.zero ms),HB0,HA0⟩
   case round =>
    obtain ⟨k,hk,rfl,HK,HB,HA⟩:=hrel
    have hbl:=HA.out.1
    have q0:=q_ HA.out.2 0
    have q1:=q_ HA.out.2 1
    by_cases hlt:k<ml
    ·have hlt2:(k:Int)<(ml:Int):=by omega
     have hkl:k<ms.length:=by have:=HML.out;omega
     rcases HI.out.below HB.out with h|⟨b,off,rfl,hbb,h⟩
     ·omega
     have HP:Hid (∀j,j+1=k→wr.cell? ⟨b,off+j*6,none⟩=some (.string (mN ms j))):=H_ (fun j hj=>by
      obtain ⟨_,_,_,q,_⟩:=h j (by omega)
      exact q)
     obtain ⟨ta,tc,hv,c0,c1,c2,c3,c4,c5,_⟩:=h k hlt
     clear h
     have HMR:=H_ (fun W (hW:Below w.heap.size w W)=>spec_meter (V k) (ms.getD k Me.zero) W (HS2.out k hlt).1 (HS2.out k hlt).2 ((HI.out.below hW).is k hlt))
     have HWR:=H_ (ms_wrong (ms:=ms) hkl)
     have HFL:=H_ (ms_flat (ms:=ms) hkl)
     have HMO:=H_ (fun (h1:mB (ms.getD k Me.zero)=true) h2=>HK.out.more (mB_iff.1 h1) h2)
     rw [hv] at HMR
     generalize mB (ms.getD k Me.zero)=r at *
     generalize mN ms k=n at *
     generalize (ms.getD k Me.zero).ts.length=tl at *
     generalize (ms.getD k Me.zero).g=g at *
     generalize (ms.getD k Me.zero).wh=wh at *
     generalize (ms.getD k Me.zero).f=f at *
     generalize (ms.getD k Me.zero).l=l at *
     clear hv
     rcases (show k=0∨∃j,j+1=k from by rcases k with _|j;exact .inl rfl;exact .inr ⟨j,rfl⟩) with rfl|⟨j,hj⟩
     ·have HMO0:=H_ (fun h=>HMO.out h (fun h0=>absurd h0 (by omega)))
      simp only [Nat.zero_mul,Nat.add_zero] at c0 c1 c2 c3 c4 c5
      have HS0:Hid ((BS w w.heap.size b (off) (off) (.slice (some ⟨b,off,none⟩) ml mc) (.slice ca cl cc) (.string n) (.int .i64 g) (.bool wh) (.int .i64 f) (.int .i64 l) (.slice ta tl tc) (.string n)) wr):=H_ ⟨HB.out,hbl,hbb,q0,q1,c0,c1,c2,c3,c4,c5,c0⟩
      obtain ⟨S,hS⟩:∃S:World→Prop,∀W,S W↔(BS w w.heap.size b (off) (off) (.slice (some ⟨b,off,none⟩) ml mc) (.slice ca cl cc) (.string n) (.int .i64 g) (.bool wh) (.int .i64 f) (.int .i64 l) (.slice ta tl tc) (.string n)) W:=⟨_,fun _=>Iff.rfl⟩
      have HSC:Hid (∀s:HW S,(BS w w.heap.size b (off) (off) (.slice (some ⟨b,off,none⟩) ml mc) (.slice ca cl cc) (.string n) (.int .i64 g) (.bool wh) (.int .i64 f) (.int .i64 l) (.slice ta tl tc) (.string n)) s.w):=H_ (fun s=>(hS _).1 s.h)
      have HSB:Hid (∀(s:HW S) w',Below s.w.heap.size s.w w'→S w'):=H_ (fun s w' hb=>(hS _).2 ((HSC.out s).below hb))
      have HSD:Hid (S wr.drew):=H_ ((hS _).2 HS0.out.drew)
      have hne:Nonempty (HW S):=⟨⟨_,HSD.out⟩⟩
      have e0:∀s:HW S,s.w.cell? ⟨w.heap.size,0,none⟩=some (.slice (some ⟨b,off,none⟩) ml mc):=fun s=>(HSC.out s).2.2.2.1
      have f0:∀s:HW S,s.w.cell? ⟨b,off,none⟩=some (.string n):=fun s=>(HSC.out s).2.2.2.2.2.1
      have f1:∀s:HW S,s.w.cell? ⟨b,off+1,none⟩=some (.int .i64 g):=fun s=>(HSC.out s).2.2.2.2.2.2.1
      have f2:∀s:HW S,s.w.cell? ⟨b,off+2,none⟩=some (.bool wh):=fun s=>(HSC.out s).2.2.2.2.2.2.2.1
      have f3:∀s:HW S,s.w.cell? ⟨b,off+3,none⟩=some (.int .i64 f):=fun s=>(HSC.out s).2.2.2.2.2.2.2.2.1
      have f4:∀s:HW S,s.w.cell? ⟨b,off+4,none⟩=some (.int .i64 l):=fun s=>(HSC.out s).2.2.2.2.2.2.2.2.2.1
      have f5:∀s:HW S,s.w.cell? ⟨b,off+5,none⟩=some (.slice ta tl tc):=fun s=>(HSC.out s).2.2.2.2.2.2.2.2.2.2.1
      have f6:∀s:HW S,s.w.cell? ⟨b,off,none⟩=some (.string n):=fun s=>(HSC.out s).2.2.2.2.2.2.2.2.2.2.2
      clear hS
      clear f6
      cases r
      ·have HR:=H_ (HWR.out rfl)
       go_wp2_with fail
       refine wp_region_hw S (by kernel_rfl) (by kernel_rfl) HSD.out ?_
       repeat (go_big_quiet_step ((rename_i s;go_at_call 103;refine (HMR.out _ (HSC.out s).1).mono ?_;rintro e w1 ⟨rfl,hb1⟩;exact ⟨rfl,⟨w1,HSB.out s w1 hb1⟩,rfl⟩)))
       refine wpQuiet_nil ?_
       intro _ hw'
       obtain ⟨s,hw''⟩:=hw'
       subst hw''
       have HBF:=H_ (HSC.out s).1
       go_wp2_with fail
       go_ret
       exact ⟨ret_bool (by rw [HVV.out,HR.out];rfl),HBF.out⟩
      ·have HM:=H_ (HMO0.out rfl)
       go_wp2_with fail
       refine wp_region_hw S (by kernel_rfl) (by kernel_rfl) HSD.out ?_
       repeat (go_big_quiet_step ((rename_i s;go_at_call 103;refine (HMR.out _ (HSC.out s).1).mono ?_;rintro e w1 ⟨rfl,hb1⟩;exact ⟨rfl,⟨w1,HSB.out s w1 hb1⟩,rfl⟩)))
       refine wpQuiet_nil ?_
       intro _ hw'
       obtain ⟨s,hw''⟩:=hw'
       subst hw''
       have HBF:=H_ (HSC.out s).1
       have HAF:Hid (Blk w.heap.size [.slice (some ⟨b,off,none⟩) ml mc,.slice ca cl cc] s.w):=H_ (blk2 (HSC.out s).2.1 (HSC.out s).2.2.2.1 (HSC.out s).2.2.2.2.1)
       go_wp2_with fail
       go_roundw
       case rel=>exact ⟨0+1,by omega,by go_num,HM,HBF,HAF⟩
       case measure=>simp [intOf];omega
     ·have p0:=HP.out j hj
      have hj1:IntKind.i64.wrap ((k:Int)-1)=(j:Int):=by rw [IntKind.wrap_i64];omega
      have hj2:0<k:=by omega
      have hj3:(j:Int)<(ml:Int):=by omega
      have ejk:k-1=j:=by omega
      rw [ejk] at HFL HMO
      clear hj ejk
      generalize hpn:mN ms j=pn at *
      have HPN:=H_ hpn
      clear hpn
      have HS0:Hid ((BS w w.heap.size b (off+k*6) (off+j*6) (.slice (some ⟨b,off,none⟩) ml mc) (.slice ca cl cc) (.string n) (.int .i64 g) (.bool wh) (.int .i64 f) (.int .i64 l) (.slice ta tl tc) (.string pn)) wr):=H_ ⟨HB.out,hbl,hbb,q0,q1,c0,c1,c2,c3,c4,c5,p0⟩
      obtain ⟨S,hS⟩:∃S:World→Prop,∀W,S W↔(BS w w.heap.size b (off+k*6) (off+j*6) (.slice (some ⟨b,off,none⟩) ml mc) (.slice ca cl cc) (.string n) (.int .i64 g) (.bool wh) (.int .i64 f) (.int .i64 l) (.slice ta tl tc) (.string pn)) W:=⟨_,fun _=>Iff.rfl⟩
      have HSC:Hid (∀s:HW S,(BS w w.heap.size b (off+k*6) (off+j*6) (.slice (some ⟨b,off,none⟩) ml mc) (.slice ca cl cc) (.string n) (.int .i64 g) (.bool wh) (.int .i64 f) (.int .i64 l) (.slice ta tl tc) (.string pn)) s.w):=H_ (fun s=>(hS _).1 s.h)
      have HSB:Hid (∀(s:HW S) w',Below s.w.heap.size s.w w'→S w'):=H_ (fun s w' hb=>(hS _).2 ((HSC.out s).below hb))
      have HSD:Hid (S wr.drew):=H_ ((hS _).2 HS0.out.drew)
      have hne:Nonempty (HW S):=⟨⟨_,HSD.out⟩⟩
      have e0:∀s:HW S,s.w.cell? ⟨w.heap.size,0,none⟩=some (.slice (some ⟨b,off,none⟩) ml mc):=fun s=>(HSC.out s).2.2.2.1
      have f0:∀s:HW S,s.w.cell? ⟨b,off+k*6,none⟩=some (.string n):=fun s=>(HSC.out s).2.2.2.2.2.1
      have f1:∀s:HW S,s.w.cell? ⟨b,off+k*6+1,none⟩=some (.int .i64 g):=fun s=>(HSC.out s).2.2.2.2.2.2.1
      have f2:∀s:HW S,s.w.cell? ⟨b,off+k*6+2,none⟩=some (.bool wh):=fun s=>(HSC.out s).2.2.2.2.2.2.2.1
      have f3:∀s:HW S,s.w.cell? ⟨b,off+k*6+3,none⟩=some (.int .i64 f):=fun s=>(HSC.out s).2.2.2.2.2.2.2.2.1
      have f4:∀s:HW S,s.w.cell? ⟨b,off+k*6+4,none⟩=some (.int .i64 l):=fun s=>(HSC.out s).2.2.2.2.2.2.2.2.2.1
      have f5:∀s:HW S,s.w.cell? ⟨b,off+k*6+5,none⟩=some (.slice ta tl tc):=fun s=>(HSC.out s).2.2.2.2.2.2.2.2.2.2.1
      have f6:∀s:HW S,s.w.cell? ⟨b,off+j*6,none⟩=some (.string pn):=fun s=>(HSC.out s).2.2.2.2.2.2.2.2.2.2.2
      clear hS
      cases r
      ·have HR:=H_ (HWR.out rfl)
       go_wp2_with fail
       refine wp_region_hw S (by kernel_rfl) (by kernel_rfl) HSD.out ?_
       repeat (go_big_quiet_step ((rename_i s;go_at_call 103;refine (HMR.out _ (HSC.out s).1).mono ?_;rintro e w1 ⟨rfl,hb1⟩;exact ⟨rfl,⟨w1,HSB.out s w1 hb1⟩,rfl⟩)))
       refine wpQuiet_nil ?_
       intro _ hw'
       obtain ⟨s,hw''⟩:=hw'
       subst hw''
       have HBF:=H_ (HSC.out s).1
       go_wp2_with fail
       go_ret
       exact ⟨ret_bool (by rw [HVV.out,HR.out];rfl),HBF.out⟩
      ·cases hfl:Op.bytesLess pn.toList n.toList
       ·have HR:=H_ (HFL.out hj2 hfl)
        go_wp2_with fail
        refine wp_region_hw S (by kernel_rfl) (by kernel_rfl) HSD.out ?_
        repeat (go_big_quiet_step ((rename_i s;go_at_call 103;refine (HMR.out _ (HSC.out s).1).mono ?_;rintro e w1 ⟨rfl,hb1⟩;exact ⟨rfl,⟨w1,HSB.out s w1 hb1⟩,rfl⟩)))
        refine wpQuiet_nil ?_
        intro _ hw'
        obtain ⟨s,hw''⟩:=hw'
        subst hw''
        have HBF:=H_ (HSC.out s).1
        go_wp2_with fail
        go_ret
        exact ⟨ret_bool (by rw [HVV.out,HR.out];rfl),HBF.out⟩
       ·have HM:=H_ (HMO.out rfl (fun _=>hfl))
        go_wp2_with fail
        refine wp_region_hw S (by kernel_rfl) (by kernel_rfl) HSD.out ?_
        repeat (go_big_quiet_step ((rename_i s;go_at_call 103;refine (HMR.out _ (HSC.out s).1).mono ?_;rintro e w1 ⟨rfl,hb1⟩;exact ⟨rfl,⟨w1,HSB.out s w1 hb1⟩,rfl⟩)))
        refine wpQuiet_nil ?_
        intro _ hw'
        obtain ⟨s,hw''⟩:=hw'
        subst hw''
        have HBF:=H_ (HSC.out s).1
        have HAF:Hid (Blk w.heap.size [.slice (some ⟨b,off,none⟩) ml mc,.slice ca cl cc] s.w):=H_ (blk2 (HSC.out s).2.1 (HSC.out s).2.2.2.1 (HSC.out s).2.2.2.2.1)
        go_wp2_with fail
        go_roundw
        case rel=>exact ⟨k+1,by omega,by go_num,HM,HBF,HAF⟩
        case measure=>simp [intOf];omega
    ·obtain rfl:k=ml:=by omega
     have HMR:Hid (msB ms=true):=H_ (ms_end (by have:=HML.out;omega) (by rw [HML.out];exact HK.out))
     go_wp2_with fail
     go_loopw [4] (fun z wx=>∃q:Nat,q≤cl∧z=.int .i64 q∧Hid (COk cs q)∧Hid (Below w.heap.size w wx)∧Hid (Blk w.heap.size [.slice ma k mc,.slice ca cl cc] wx)) (fun z _=>cl-(intOf z).toNat)
     case atStart=>exact ⟨0,by omega,rfl,H_ (COk.zero cs),HB,HA⟩
     case round =>
      clear HK HB HA hbl q0 q1
      obtain ⟨q,hq,rfl,HK,HB,HA⟩:=hrel
      have hbl:=HA.out.1
      have q0:=q_ HA.out.2 0
      have q1:=q_ HA.out.2 1
      by_cases hlt:q<cl
      ·have hlt2:(q:Int)<(cl:Int):=by omega
       have hkl:q<cs.length:=by have:=HCL.out;omega
       obtain ⟨b,off,rfl,hbb,d0,d1⟩:=crs_at (HJ.out.below HB.out) q hlt
       have c0:wr.cell? ⟨b,off+q*2,none⟩=some (.string (cA cs q)):=d0
       have c1:wr.cell? ⟨b,off+q*2+1,none⟩=some (.int .i64 (cM cs q)):=d1
       have HP:Hid (∀j,j+1=q→wr.cell? ⟨b,off+j*2,none⟩=some (.string (cA cs j))):=H_ (fun j hj=>by
        obtain ⟨b',off',hbo,_,e0,_⟩:=crs_at (HJ.out.below HB.out) j (by omega)
        obtain ⟨rfl,rfl⟩:b=b'∧off=off':=by simpa using hbo
        exact e0)
       clear d0 d1
       have hsz:(cA cs q).size≤1048576:=HS4.out q hlt
       have HN:=H_ (fun w=>NameR.spec_any (cA cs q) w hsz)
       have HW:=H_ (fun w=>isS (cM cs q) 0 1000000000000 w)
       have HNA:=H_ (cs_name hkl)
       have HMI:=H_ (cs_micro hkl)
       have HFL:=H_ (cs_flat (cs:=cs) hkl)
       have HMO:=H_ (fun h1 h3 h2=>HK.out.more (k:=q) h1 h3 h2)
       generalize NameR.nameB (cA cs q)=r at *
       generalize cA cs q=a at *
       generalize cM cs q=m at *
       have HAl:=H_ (fun o=>HB.out.alloc HB.out.size o)
       have HBl:=H_ (fun o=>HA.out.alloc o)
       clear hsz
       rcases (show q=0∨∃j,j+1=q from by rcases q with _|j;exact .inl rfl;exact .inr ⟨j,rfl⟩) with rfl|⟨j,hj⟩
       ·simp only [Nat.zero_mul,Nat.add_zero] at c0 c1
        cases r
        ·have HR:=H_ (HNA.out rfl)
         go_wp2_with fail
         go_quiet ((first|(go_at_call 104;exact Calls.quiet_of_same (HN.out _))|(go_at_call 63;exact Calls.quiet_of_same (HW.out _))))
         go_wp2_with fail
         go_ret
         exact ⟨ret_bool (by rw [HVV.out,HR.out];simp),bdrewN (HAl.out _) _⟩
        ·by_cases hm:0≤m∧m≤1000000000000
         ·have HM:=H_ (HMO.out rfl hm (fun h=>absurd h (by omega)))
          rw [decide_eq_true hm] at HW
          go_wp2_with fail
          go_quiet ((first|(go_at_call 104;exact Calls.quiet_of_same (HN.out _))|(go_at_call 63;exact Calls.quiet_of_same (HW.out _))))
          go_wp2_with fail
          go_roundw
          case rel=>exact ⟨0+1,by omega,by go_num,HM,H_ (bdrewN (HAl.out _) _),H_ ((HBl.out _).drewN _)⟩
          case measure=>simp [intOf];omega
         ·have HR:=H_ (HMI.out hm)
          rw [decide_eq_false hm] at HW
          go_wp2_with fail
          go_quiet ((first|(go_at_call 104;exact Calls.quiet_of_same (HN.out _))|(go_at_call 63;exact Calls.quiet_of_same (HW.out _))))
          go_wp2_with fail
          go_ret
          exact ⟨ret_bool (by rw [HVV.out,HR.out];simp),bdrewN (HAl.out _) _⟩
       ·have p0:=HP.out j hj
        have hj1:IntKind.i64.wrap ((q:Int)-1)=(j:Int):=by rw [IntKind.wrap_i64];omega
        have hj2:0<q:=by omega
        have hj3:(j:Int)<(cl:Int):=by omega
        have ejk:q-1=j:=by omega
        rw [ejk] at HFL HMO
        clear hj ejk
        generalize cA cs j=p at *
        cases r
        ·have HR:=H_ (HNA.out rfl)
         go_wp2_with fail
         go_quiet ((first|(go_at_call 104;exact Calls.quiet_of_same (HN.out _))|(go_at_call 63;exact Calls.quiet_of_same (HW.out _))))
         go_wp2_with fail
         go_ret
         exact ⟨ret_bool (by rw [HVV.out,HR.out];simp),bdrewN (HAl.out _) _⟩
        ·cases hfl:Op.bytesLess p.toList a.toList
         ·have HR:=H_ (HFL.out hj2 hfl)
          go_wp2_with fail
          go_quiet ((first|(go_at_call 104;exact Calls.quiet_of_same (HN.out _))|(go_at_call 63;exact Calls.quiet_of_same (HW.out _))))
          go_wp2_with fail
          go_ret
          exact ⟨ret_bool (by rw [HVV.out,HR.out];simp),bdrewN (HAl.out _) _⟩
         ·by_cases hm:0≤m∧m≤1000000000000
          ·have HM:=H_ (HMO.out rfl hm (fun _=>hfl))
           rw [decide_eq_true hm] at HW
           go_wp2_with fail
           go_quiet ((first|(go_at_call 104;exact Calls.quiet_of_same (HN.out _))|(go_at_call 63;exact Calls.quiet_of_same (HW.out _))))
           go_wp2_with fail
           go_roundw
           case rel=>exact ⟨q+1,by omega,by go_num,HM,H_ (bdrewN (HAl.out _) _),H_ ((HBl.out _).drewN _)⟩
           case measure=>simp [intOf];omega
          ·have HR:=H_ (HMI.out hm)
           rw [decide_eq_false hm] at HW
           go_wp2_with fail
           go_quiet ((first|(go_at_call 104;exact Calls.quiet_of_same (HN.out _))|(go_at_call 63;exact Calls.quiet_of_same (HW.out _))))
           go_wp2_with fail
           go_ret
           exact ⟨ret_bool (by rw [HVV.out,HR.out];simp),bdrewN (HAl.out _) _⟩
      ·obtain rfl:q=cl:=by omega
       have HR:Hid (csB cs=true):=H_ (cs_end (by have:=HCL.out;omega) (by rw [HCL.out];exact HK.out))
       go_wp2_with fail
       go_ret
       exact ⟨ret_bool (by rw [HVV.out,HMR.out,HR.out];rfl),HB.out⟩
end CatR
namespace WinR
open RowG LtR
theorem tag_word (X:ByteArray):(WordR.printB X&&decide ((X.size:Int)≤10))=EvtR.tagB X:=by
 unfold EvtR.tagB
 rw [Bool.and_comm]
 congr 1
 exact decide_eq_decide.2 (by omega)
theorem ok_none {X:ByteArray} (h:X.size=0):tagOk X=false:=by unfold tagOk;rw [decide_eq_false (by omega),Bool.false_and]
theorem ok_some {X:ByteArray} (h:X.size≠0):tagOk X=EvtR.tagB X:=by unfold tagOk;rw [decide_eq_true (by omega),Bool.true_and]
theorem spec_tags (ao:Option Addr) (cap:Nat) (ts:List ByteArray) (w:World) (hlen:ts.length≤1048576) (hS:∀t∈ts,t.size≤1048576) (hI:Tgs ao ts w) :
 Calls Tryz.prog 110 #[.slice ao ts.length cap] w fun e w'=>e=.returned (.bool (tagsB ts))∧Below w.heap.size w w':=by
 have HI:=H_ hI
 have HS:=H_ hS
 have HBA:=H_ (fun k=>tags_bad (ts:=ts) (k:=k))
 have HDO:=H_ (tags_done (ts:=ts))
 generalize tagsB ts=R at *
 obtain ⟨len,hl⟩:∃len,len=ts.length:=⟨_,rfl⟩
 rw [←hl] at hlen ⊢
 have HL:=H_ hl
 clear hI hl hS
 go_enter Tryz.func110,Tryz.ntmps110
 go_wp2_with fail
 go_loopw [3] (fun z wr=>∃k:Nat,k≤len∧z=.int .i64 k∧Hid (TUp ts k)∧Hid (Below w.heap.size w wr)) (fun z _=>len-(intOf z).toNat)
 case atStart=>exact ⟨0,by omega,rfl,H_ (TUp.zero ts),H_ (Below.refl _ _)⟩
 case round =>
  obtain ⟨k,hk,rfl,HK,HB⟩:=hrel
  by_cases hlt:k<len
  ·have hlt2:(k:Int)<(len:Int):=by omega
   have hkl:k<ts.length:=by have:=HL.out;omega
   obtain ⟨b,off,rfl,hbl,c0⟩:=(HI.out.below HB.out).at k hkl
   have hsz:=HS.out _ (getD_mem (z:=tz) ts k hkl)
   have H1:=H_ (fun w=>WordR.spec_word (ts.getD k tz) 10 w hsz)
   rw [tag_word] at H1
   have HB1:=H_ (fun h=>HBA.out k hkl (.inl h))
   have HB2:=H_ (fun h0 h=>HBA.out k hkl (.inr ⟨h0,h⟩))
   have HM:=H_ (fun h1 h2=>HK.out.more hkl h1 h2)
   have HO0:=H_ (ok_none (X:=ts.getD k tz))
   have HO1:=H_ (ok_some (X:=ts.getD k tz))
   rcases (show k=0∨∃j,j+1=k from by rcases k with _|j;exact .inl rfl;exact .inr ⟨j,rfl⟩) with rfl|⟨j,hkj⟩
   ·simp only [Nat.add_zero] at c0
    generalize ts.getD 0 tz=X at *
    by_cases hi:X.size=0
    ·have he:=EvtR.empty_of X hi
     have HR:Hid (R=false):=H_ (HB1.out (HO0.out hi))
     go_wp2_with fail
     go_quiet ((go_at_call 105;exact Calls.quiet_of_same (H1.out _)))
     go_wp2_with fail
     go_ret
     exact ⟨ret_bool HR.out.symm,bdN HB.out _⟩
    ·obtain ⟨he,he2⟩:=EvtR.full_of X hi
     have HO2:=H_ (HO1.out hi)
     generalize EvtR.tagB X=g at *
     cases g
     ·have HR:Hid (R=false):=H_ (HB1.out HO2.out)
      go_wp2_with fail
      go_quiet ((go_at_call 105;exact Calls.quiet_of_same (H1.out _)))
      go_wp2_with fail
      go_ret
      exact ⟨ret_bool HR.out.symm,bdN HB.out _⟩
     ·have HM2:=H_ (HM.out HO2.out (fun h=>absurd h (by omega)))
      go_wp2_with fail
      go_quiet ((go_at_call 105;exact Calls.quiet_of_same (H1.out _)))
      go_wp2_with fail
      go_roundw
      case rel=>exact ⟨0+1,by omega,by go_num,HM2,H_ (bdN HB.out _)⟩
      case measure=>simp [intOf];omega
   ·obtain ⟨b',off',hbo,hbl',d0⟩:=(HI.out.below HB.out).at j (by omega)
    obtain ⟨rfl,rfl⟩:b=b'∧off=off':=by simpa using hbo
    have hj1:IntKind.i64.wrap ((k:Int)-1)=(j:Int):=by rw [IntKind.wrap_i64];omega
    have hj2:0<k:=by omega
    have hj3:(j:Int)<(len:Int):=by omega
    rw [show k-1=j by omega] at HB2 HM
    clear hbl' hbo hkj
    generalize ts.getD k tz=X at *
    generalize ts.getD j tz=Y at *
    by_cases hi:X.size=0
    ·have he:=EvtR.empty_of X hi
     have HR:Hid (R=false):=H_ (HB1.out (HO0.out hi))
     go_wp2_with fail
     go_quiet ((go_at_call 105;exact Calls.quiet_of_same (H1.out _)))
     go_wp2_with fail
     go_ret
     exact ⟨ret_bool HR.out.symm,bdN HB.out _⟩
    ·obtain ⟨he,he2⟩:=EvtR.full_of X hi
     have HO2:=H_ (HO1.out hi)
     generalize EvtR.tagB X=g at *
     cases g
     ·have HR:Hid (R=false):=H_ (HB1.out HO2.out)
      go_wp2_with fail
      go_quiet ((go_at_call 105;exact Calls.quiet_of_same (H1.out _)))
      go_wp2_with fail
      go_ret
      exact ⟨ret_bool HR.out.symm,bdN HB.out _⟩
     ·cases hq:Op.bytesLess Y.toList X.toList
      ·have HR:Hid (R=false):=H_ (HB2.out hj2 hq)
       go_wp2_with fail
       go_quiet ((go_at_call 105;exact Calls.quiet_of_same (H1.out _)))
       go_wp2_with fail
       go_ret
       exact ⟨ret_bool HR.out.symm,bdN HB.out _⟩
      ·have HM2:=H_ (HM.out HO2.out (fun _=>hq))
       go_wp2_with fail
       go_quiet ((go_at_call 105;exact Calls.quiet_of_same (H1.out _)))
       go_wp2_with fail
       go_roundw
       case rel=>exact ⟨k+1,by omega,by go_num,HM2,H_ (bdN HB.out _)⟩
       case measure=>simp [intOf];omega
  ·have hlt2:¬(k:Int)<(len:Int):=by omega
   obtain rfl:k=len:=by omega
   have HR:Hid (R=decide (k≤12)):=H_ (by rw [HDO.out (by rw [←HL.out];exact HK.out),←HL.out])
   by_cases h12:k≤12
   ·rw [decide_eq_true h12] at HR
    have h12':(k:Int)≤12:=by omega
    go_wp2_with fail
    go_ret
    exact ⟨ret_bool HR.out.symm,HB.out⟩
   ·rw [decide_eq_false h12] at HR
    have h12':¬(k:Int)≤12:=by omega
    go_wp2_with fail
    go_ret
    exact ⟨ret_bool HR.out.symm,HB.out⟩
end WinR
namespace WinR
open RowG LtR
def SHt (w:World) (b o o':Nat) (x y:H) (W:World):Prop:=Below w.heap.size w W∧b<W.heap.size∧W.cell? ⟨b,o,none⟩=some (.int .i64 x.h)∧W.cell? ⟨b,o+1,none⟩=some (.int .i64 x.s)∧W.cell? ⟨b,o',none⟩=some (.int .i64 y.h)
theorem SHt.below {w:World} {b o o':Nat} {x y:H} {W W':World} (h:SHt w b o o' x y W) (hb:Below W.heap.size W W'):SHt w b o o' x y W':=by
 obtain ⟨h0,h1,c0,c1,c2⟩:=h
 have c:=fun o=>hb.cell (p:=⟨b,o,none⟩) h1
 have:=hb.size
 exact ⟨h0.trans (hb.mono h0.size),by omega,(c _).trans c0,(c _).trans c1,(c _).trans c2⟩
theorem ok_far {mo su:Int} {x:H} (h:¬(0≤x.h∧x.h≤2016666)):hOk mo su x=false:=by unfold hOk;rw [hour_far h,Bool.false_and]
theorem ok_in {mo su:Int} {x:H} {v:Int} {k:Nat} (h1:0≤x.h) (h2:x.h≤2016666) (hv:v=(k:Int)) (f1:DateM.fd k≤60*x.h / 1440) (f2:60*x.h / 1440<DateM.fd (k+1)):hOk mo su x=(decide (v=mo)&&decide (0≤x.s∧x.s≤su)):=by
 unfold hOk
 rw [hour_month h1 h2 k hv f1 f2]
theorem is_any (n low high:Int) (w:World) :
 Calls Tryz.prog 63 #[.int .i64 n,.int .i64 low,.int .i64 high] w fun e w'=>e=.returned (.bool (decide (low≤n∧n≤high)))∧Below w.heap.size w w' :=
 (EvtR.is_any n low high w).mono fun e w' ⟨h1,h2⟩=>by subst h2;exact ⟨h1,Below.refl _ _⟩
theorem is_lit (n low high:Int) (b:Bool) (hb:b=decide (low≤n∧n≤high)) (w:World) :
 Calls Tryz.prog 63 #[.int .i64 n,.int .i64 low,.int .i64 high] w fun e w'=>e=.returned (.bool b)∧Below w.heap.size w w':=by
 rw [hb];exact is_any n low high w
theorem spec_hours (ao:Option Addr) (cap:Nat) (hs:List H) (mo su:Int) (w:World) (hlen:hs.length≤12) (hsu:0≤su∧su≤1000000000000) (hI:Hrs ao hs w) :
 Calls Tryz.prog 111 #[.slice ao hs.length cap,.int .i64 mo,.int .i64 su] w fun e w'=>e=.returned (.bool (hoursB hs mo su))∧Below w.heap.size w w':=by
 have HI:=H_ hI
 have HBA:=H_ (fun k=>hours_bad (hs:=hs) (mo:=mo) (su:=su) (k:=k))
 have HDO:=H_ (hours_done (hs:=hs) (mo:=mo) (su:=su))
 generalize hoursB hs mo su=R at *
 obtain ⟨len,hl⟩:∃len,len=hs.length:=⟨_,rfl⟩
 rw [←hl] at hlen ⊢
 have HL:=H_ hl
 obtain ⟨hs0,hs1⟩:=hsu
 clear hI hl
 go_enter Tryz.func111,Tryz.ntmps111
 go_wp2_with fail
 go_loopw [7,8] (fun y z wr=>∃k:Nat,k≤len∧y=.int .i64 (hsum (hs.take k))∧z=.int .i64 k∧Hid (SUp hs mo su k)∧Hid (Below w.heap.size w wr)) (fun y z _=>len-(intOf z).toNat)
 case atStart=>exact ⟨0,by omega,by simp [hsum],rfl,H_ (SUp.zero hs mo su),H_ (Below.refl _ _)⟩
 case round =>
  obtain ⟨k,hk,rfl,rfl,HK,HB⟩:=hrel
  by_cases hlt1:k<len
  ·have hlt2:(k:Int)<(len:Int):=by omega
   have hkl:k<hs.length:=by have:=HL.out;omega
   have HSS:=H_ (HK.out.sum hs0 (by omega))
   have hT0:0≤hsum (hs.take k):=HSS.out.1
   have hT1:hsum (hs.take k)≤12000000000000:=by
    have h1:=HSS.out.2
    have h2:su*(k:Int)≤1000000000000*12:=Int.mul_le_mul hs1 (by omega) (by omega) (by omega)
    omega
   have HST:=H_ (hsum_take hs k hkl)
   obtain ⟨b,off,rfl,hbl,c0,c1⟩:=(HI.out.below HB.out).at k hkl
   have HB1:=H_ (fun h=>HBA.out k hkl (.inl h))
   have HB2:=H_ (fun h0 h=>HBA.out k hkl (.inr ⟨h0,h⟩))
   have HM:=H_ (fun h1 h2=>HK.out.more hkl h1 h2)
   generalize hsum (hs.take k)=T at *
   rcases (show k=0∨∃j,j+1=k from by rcases k with _|j;exact .inl rfl;exact .inr ⟨j,rfl⟩) with rfl|⟨j,hkj⟩
   ·simp only [Nat.zero_mul,Nat.add_zero] at c0 c1
    generalize hs.getD 0 H.zero=X at *
    obtain ⟨xh,xs⟩:=X
    dsimp only at c0 c1 HST
    have d0:=c0
    obtain ⟨yh,hyh⟩:∃yh,yh=xh:=⟨_,rfl⟩
    rw [←hyh] at d0
    obtain ⟨ys,hys⟩:∃ys:Int,ys=0:=⟨_,rfl⟩
    clear hyh hys
    have HS0:Hid (SHt w b (off) (off) ⟨xh,xs⟩ ⟨yh,ys⟩ wr):=H_ ⟨HB.out,hbl,c0,c1,d0⟩
    obtain ⟨S,hS⟩:∃S:World→Prop,∀W,S W↔SHt w b (off) (off) ⟨xh,xs⟩ ⟨yh,ys⟩ W:=⟨_,fun _=>Iff.rfl⟩
    have HSC:Hid (∀s:HW S,SHt w b (off) (off) ⟨xh,xs⟩ ⟨yh,ys⟩ s.w):=H_ (fun s=>(hS _).1 s.h)
    have HSB:Hid (∀(s:HW S) w',Below s.w.heap.size s.w w'→S w'):=H_ (fun s w' hb=>(hS _).2 ((HSC.out s).below hb))
    have HSD:Hid (S wr.drew):=H_ ((hS _).2 (HS0.out.below (Below.refl _ _).drew))
    have hne:Nonempty (HW S):=⟨⟨_,HSD.out⟩⟩
    have f0:∀s:HW S,s.w.cell? ⟨b,off,none⟩=some (.int .i64 xh):=fun s=>(HSC.out s).2.2.1
    have f1:∀s:HW S,s.w.cell? ⟨b,off+1,none⟩=some (.int .i64 xs):=fun s=>(HSC.out s).2.2.2.1
    clear hS
    rcases (show (¬0≤xh)∨(0≤xh∧¬xh≤2016666)∨(0≤xh∧xh≤2016666) by omega) with p1|⟨p1,p2⟩|⟨p1,p2⟩
    ·have HR:Hid (R=false):=H_ (HB1.out (ok_far (fun h=>p1 h.1)))
     have HIs1:Hid (false=decide (0≤xh∧xh≤2016666)):=H_ (decide_eq_false (by omega)).symm
     have HIs2:=HIs1
     go_wp2_with fail
     refine wp_region_hw S (by kernel_rfl) (by kernel_rfl) HSD.out ?_
     repeat (go_big_quiet_step ((rename_i s;first|(go_at_call 63;refine (is_lit _ _ _ _ (by first|exact HIs1.out|exact HIs2.out) _).mono ?_;rintro e w1 ⟨rfl,hb1⟩;exact ⟨rfl,⟨w1,HSB.out s w1 hb1⟩,rfl⟩))))
     refine wpQuiet_nil ?_
     intro _ hw'
     obtain ⟨s,hw''⟩:=hw'
     subst hw''
     have HBF:=H_ (HSC.out s).1
     go_wp2_with fail
     go_ret
     exact ⟨ret_bool HR.out.symm,HBF.out⟩
    ·have HR:Hid (R=false):=H_ (HB1.out (ok_far (fun h=>p2 h.2)))
     have HIs1:Hid (false=decide (0≤xh∧xh≤2016666)):=H_ (decide_eq_false (by omega)).symm
     have HIs2:=HIs1
     go_wp2_with fail
     refine wp_region_hw S (by kernel_rfl) (by kernel_rfl) HSD.out ?_
     repeat (go_big_quiet_step ((rename_i s;first|(go_at_call 63;refine (is_lit _ _ _ _ (by first|exact HIs1.out|exact HIs2.out) _).mono ?_;rintro e w1 ⟨rfl,hb1⟩;exact ⟨rfl,⟨w1,HSB.out s w1 hb1⟩,rfl⟩))))
     refine wpQuiet_nil ?_
     intro _ hw'
     obtain ⟨s,hw''⟩:=hw'
     subst hw''
     have HBF:=H_ (HSC.out s).1
     go_wp2_with fail
     go_ret
     exact ⟨ret_bool HR.out.symm,HBF.out⟩
    ·obtain ⟨K,K1,F1,F2,_,hms⟩:=month_two (60*xh) (by omega) (by omega)
     have HMO:=H_ hms
     have HOK:=H_ (ok_in (mo:=mo) (su:=su) (x:=⟨xh,xs⟩) p1 p2 (v:=(K:Int)) rfl F1 F2)
     generalize hn60:60*xh=n at *
     clear hms F1 F2
     have HIs1:Hid (true=decide (0≤xh∧xh≤2016666)):=H_ (decide_eq_true ⟨p1,p2⟩).symm
     by_cases hmo:(K:Int)=mo
     ·rw [decide_eq_true hmo,Bool.true_and] at HOK
      have hmo2:((K:Int) != mo)=false:=by simp [hmo]
      by_cases hin:0≤xs∧xs≤su
      ·have HM2:=H_ (HM.out (by rw [HOK.out,decide_eq_true hin]) (fun h=>absurd h (by omega)))
       have HIs2:Hid (true=decide (0≤xs∧xs≤su)):=H_ (decide_eq_true hin).symm
       obtain ⟨hin1,hin2⟩:=hin
       go_wp2_with fail
       refine wp_region_hw S (by kernel_rfl) (by kernel_rfl) HSD.out ?_
       repeat (go_big_quiet_step ((rename_i s;first|(go_at_call 63;refine (is_lit _ _ _ _ (by first|exact HIs1.out|exact HIs2.out) _).mono ?_;rintro e w1 ⟨rfl,hb1⟩;exact ⟨rfl,⟨w1,HSB.out s w1 hb1⟩,rfl⟩)|(go_at_call 155;(try rw [hn60]);refine (HMO.out _).mono ?_;rintro e w1 ⟨rfl,hb1⟩;exact ⟨rfl,⟨w1,HSB.out s w1 hb1⟩,rfl⟩))))
       refine wpQuiet_nil ?_
       intro _ hw'
       obtain ⟨s,hw''⟩:=hw'
       subst hw''
       have HBF:=H_ (HSC.out s).1
       go_wp2_with fail
       go_roundw
       case rel=>exact ⟨0+1,by omega,by rw [HST.out],by go_num,HM2,HBF⟩
       case measure=>simp [intOf];omega
      ·have HR:Hid (R=false):=H_ (HB1.out (by rw [HOK.out,decide_eq_false hin]))
       have HIs2:Hid (false=decide (0≤xs∧xs≤su)):=H_ (decide_eq_false hin).symm
       go_wp2_with fail
       refine wp_region_hw S (by kernel_rfl) (by kernel_rfl) HSD.out ?_
       repeat (go_big_quiet_step ((rename_i s;first|(go_at_call 63;refine (is_lit _ _ _ _ (by first|exact HIs1.out|exact HIs2.out) _).mono ?_;rintro e w1 ⟨rfl,hb1⟩;exact ⟨rfl,⟨w1,HSB.out s w1 hb1⟩,rfl⟩)|(go_at_call 155;(try rw [hn60]);refine (HMO.out _).mono ?_;rintro e w1 ⟨rfl,hb1⟩;exact ⟨rfl,⟨w1,HSB.out s w1 hb1⟩,rfl⟩))))
       refine wpQuiet_nil ?_
       intro _ hw'
       obtain ⟨s,hw''⟩:=hw'
       subst hw''
       have HBF:=H_ (HSC.out s).1
       go_wp2_with fail
       go_ret
       exact ⟨ret_bool HR.out.symm,HBF.out⟩
     ·rw [decide_eq_false hmo,Bool.false_and] at HOK
      have HR:Hid (R=false):=H_ (HB1.out HOK.out)
      have hmo2:((K:Int) != mo)=true:=by simp [hmo]
      have HIs2:=HIs1
      go_wp2_with fail
      refine wp_region_hw S (by kernel_rfl) (by kernel_rfl) HSD.out ?_
      repeat (go_big_quiet_step ((rename_i s;first|(go_at_call 63;refine (is_lit _ _ _ _ (by first|exact HIs1.out|exact HIs2.out) _).mono ?_;rintro e w1 ⟨rfl,hb1⟩;exact ⟨rfl,⟨w1,HSB.out s w1 hb1⟩,rfl⟩)|(go_at_call 155;(try rw [hn60]);refine (HMO.out _).mono ?_;rintro e w1 ⟨rfl,hb1⟩;exact ⟨rfl,⟨w1,HSB.out s w1 hb1⟩,rfl⟩))))
      refine wpQuiet_nil ?_
      intro _ hw'
      obtain ⟨s,hw''⟩:=hw'
      subst hw''
      have HBF:=H_ (HSC.out s).1
      go_wp2_with fail
      go_ret
      exact ⟨ret_bool HR.out.symm,HBF.out⟩
   ·obtain ⟨b',off',hbo,hbl',d0,_⟩:=(HI.out.below HB.out).at j (by omega)
    obtain ⟨rfl,rfl⟩:b=b'∧off=off':=by simpa using hbo
    have hj1:IntKind.i64.wrap ((k:Int)-1)=(j:Int):=by rw [IntKind.wrap_i64];omega
    have hj2:0<k:=by omega
    have hj3:(j:Int)<(len:Int):=by omega
    rw [show k-1=j by omega] at HB2 HM
    clear hbl' hbo hkj
    generalize hs.getD k H.zero=X at *
    generalize hs.getD j H.zero=Y at *
    obtain ⟨xh,xs⟩:=X
    obtain ⟨yh,ys⟩:=Y
    dsimp only at c0 c1 d0 HST
    have HS0:Hid (SHt w b (off+k*2) (off+j*2) ⟨xh,xs⟩ ⟨yh,ys⟩ wr):=H_ ⟨HB.out,hbl,c0,c1,d0⟩
    obtain ⟨S,hS⟩:∃S:World→Prop,∀W,S W↔SHt w b (off+k*2) (off+j*2) ⟨xh,xs⟩ ⟨yh,ys⟩ W:=⟨_,fun _=>Iff.rfl⟩
    have HSC:Hid (∀s:HW S,SHt w b (off+k*2) (off+j*2) ⟨xh,xs⟩ ⟨yh,ys⟩ s.w):=H_ (fun s=>(hS _).1 s.h)
    have HSB:Hid (∀(s:HW S) w',Below s.w.heap.size s.w w'→S w'):=H_ (fun s w' hb=>(hS _).2 ((HSC.out s).below hb))
    have HSD:Hid (S wr.drew):=H_ ((hS _).2 (HS0.out.below (Below.refl _ _).drew))
    have hne:Nonempty (HW S):=⟨⟨_,HSD.out⟩⟩
    have f0:∀s:HW S,s.w.cell? ⟨b,off+k*2,none⟩=some (.int .i64 xh):=fun s=>(HSC.out s).2.2.1
    have f1:∀s:HW S,s.w.cell? ⟨b,off+k*2+1,none⟩=some (.int .i64 xs):=fun s=>(HSC.out s).2.2.2.1
    have f2:∀s:HW S,s.w.cell? ⟨b,off+j*2,none⟩=some (.int .i64 yh):=fun s=>(HSC.out s).2.2.2.2
    clear hS
    rcases (show (¬0≤xh)∨(0≤xh∧¬xh≤2016666)∨(0≤xh∧xh≤2016666) by omega) with p1|⟨p1,p2⟩|⟨p1,p2⟩
    ·have HR:Hid (R=false):=H_ (HB1.out (ok_far (fun h=>p1 h.1)))
     have HIs1:Hid (false=decide (0≤xh∧xh≤2016666)):=H_ (decide_eq_false (by omega)).symm
     have HIs2:=HIs1
     go_wp2_with fail
     refine wp_region_hw S (by kernel_rfl) (by kernel_rfl) HSD.out ?_
     repeat (go_big_quiet_step ((rename_i s;first|(go_at_call 63;refine (is_lit _ _ _ _ (by first|exact HIs1.out|exact HIs2.out) _).mono ?_;rintro e w1 ⟨rfl,hb1⟩;exact ⟨rfl,⟨w1,HSB.out s w1 hb1⟩,rfl⟩))))
     refine wpQuiet_nil ?_
     intro _ hw'
     obtain ⟨s,hw''⟩:=hw'
     subst hw''
     have HBF:=H_ (HSC.out s).1
     go_wp2_with fail
     go_ret
     exact ⟨ret_bool HR.out.symm,HBF.out⟩
    ·have HR:Hid (R=false):=H_ (HB1.out (ok_far (fun h=>p2 h.2)))
     have HIs1:Hid (false=decide (0≤xh∧xh≤2016666)):=H_ (decide_eq_false (by omega)).symm
     have HIs2:=HIs1
     go_wp2_with fail
     refine wp_region_hw S (by kernel_rfl) (by kernel_rfl) HSD.out ?_
     repeat (go_big_quiet_step ((rename_i s;first|(go_at_call 63;refine (is_lit _ _ _ _ (by first|exact HIs1.out|exact HIs2.out) _).mono ?_;rintro e w1 ⟨rfl,hb1⟩;exact ⟨rfl,⟨w1,HSB.out s w1 hb1⟩,rfl⟩))))
     refine wpQuiet_nil ?_
     intro _ hw'
     obtain ⟨s,hw''⟩:=hw'
     subst hw''
     have HBF:=H_ (HSC.out s).1
     go_wp2_with fail
     go_ret
     exact ⟨ret_bool HR.out.symm,HBF.out⟩
    ·obtain ⟨K,K1,F1,F2,_,hms⟩:=month_two (60*xh) (by omega) (by omega)
     have HMO:=H_ hms
     have HOK:=H_ (ok_in (mo:=mo) (su:=su) (x:=⟨xh,xs⟩) p1 p2 (v:=(K:Int)) rfl F1 F2)
     generalize hn60:60*xh=n at *
     clear hms F1 F2
     have HIs1:Hid (true=decide (0≤xh∧xh≤2016666)):=H_ (decide_eq_true ⟨p1,p2⟩).symm
     by_cases hmo:(K:Int)=mo
     ·rw [decide_eq_true hmo,Bool.true_and] at HOK
      have hmo2:((K:Int) != mo)=false:=by simp [hmo]
      by_cases hr:yh<xh
      ·have hr2:decide (xh≤yh)=false:=decide_eq_false (by omega)
       have hr3:(xh≤yh)=False:=eq_false (by omega)
       by_cases hin:0≤xs∧xs≤su
       ·have HM2:=H_ (HM.out (by rw [HOK.out,decide_eq_true hin]) (fun _=>by unfold hlt;exact decide_eq_true hr))
        have HIs2:Hid (true=decide (0≤xs∧xs≤su)):=H_ (decide_eq_true hin).symm
        obtain ⟨hin1,hin2⟩:=hin
        go_wp2_with fail
        refine wp_region_hw S (by kernel_rfl) (by kernel_rfl) HSD.out ?_
        repeat (go_big_quiet_step ((rename_i s;first|(go_at_call 63;refine (is_lit _ _ _ _ (by first|exact HIs1.out|exact HIs2.out) _).mono ?_;rintro e w1 ⟨rfl,hb1⟩;exact ⟨rfl,⟨w1,HSB.out s w1 hb1⟩,rfl⟩)|(go_at_call 155;(try rw [hn60]);refine (HMO.out _).mono ?_;rintro e w1 ⟨rfl,hb1⟩;exact ⟨rfl,⟨w1,HSB.out s w1 hb1⟩,rfl⟩))))
        refine wpQuiet_nil ?_
        intro _ hw'
        obtain ⟨s,hw''⟩:=hw'
        subst hw''
        have HBF:=H_ (HSC.out s).1
        go_wp2_with fail
        go_roundw
        case rel=>exact ⟨k+1,by omega,by rw [HST.out],by go_num,HM2,HBF⟩
        case measure=>simp [intOf];omega
       ·have HR:Hid (R=false):=H_ (HB1.out (by rw [HOK.out,decide_eq_false hin]))
        have HIs2:Hid (false=decide (0≤xs∧xs≤su)):=H_ (decide_eq_false hin).symm
        go_wp2_with fail
        refine wp_region_hw S (by kernel_rfl) (by kernel_rfl) HSD.out ?_
        repeat (go_big_quiet_step ((rename_i s;first|(go_at_call 63;refine (is_lit _ _ _ _ (by first|exact HIs1.out|exact HIs2.out) _).mono ?_;rintro e w1 ⟨rfl,hb1⟩;exact ⟨rfl,⟨w1,HSB.out s w1 hb1⟩,rfl⟩)|(go_at_call 155;(try rw [hn60]);refine (HMO.out _).mono ?_;rintro e w1 ⟨rfl,hb1⟩;exact ⟨rfl,⟨w1,HSB.out s w1 hb1⟩,rfl⟩))))
        refine wpQuiet_nil ?_
        intro _ hw'
        obtain ⟨s,hw''⟩:=hw'
        subst hw''
        have HBF:=H_ (HSC.out s).1
        go_wp2_with fail
        go_ret
        exact ⟨ret_bool HR.out.symm,HBF.out⟩
      ·have HR:Hid (R=false):=H_ (HB2.out hj2 (by unfold hlt;exact decide_eq_false hr))
       have hr2:xh≤yh:=by omega
       have HIs2:=HIs1
       go_wp2_with fail
       refine wp_region_hw S (by kernel_rfl) (by kernel_rfl) HSD.out ?_
       repeat (go_big_quiet_step ((rename_i s;first|(go_at_call 63;refine (is_lit _ _ _ _ (by first|exact HIs1.out|exact HIs2.out) _).mono ?_;rintro e w1 ⟨rfl,hb1⟩;exact ⟨rfl,⟨w1,HSB.out s w1 hb1⟩,rfl⟩)|(go_at_call 155;(try rw [hn60]);refine (HMO.out _).mono ?_;rintro e w1 ⟨rfl,hb1⟩;exact ⟨rfl,⟨w1,HSB.out s w1 hb1⟩,rfl⟩))))
       refine wpQuiet_nil ?_
       intro _ hw'
       obtain ⟨s,hw''⟩:=hw'
       subst hw''
       have HBF:=H_ (HSC.out s).1
       go_wp2_with fail
       go_ret
       exact ⟨ret_bool HR.out.symm,HBF.out⟩
     ·rw [decide_eq_false hmo,Bool.false_and] at HOK
      have HR:Hid (R=false):=H_ (HB1.out HOK.out)
      have hmo2:((K:Int) != mo)=true:=by simp [hmo]
      have HIs2:=HIs1
      go_wp2_with fail
      refine wp_region_hw S (by kernel_rfl) (by kernel_rfl) HSD.out ?_
      repeat (go_big_quiet_step ((rename_i s;first|(go_at_call 63;refine (is_lit _ _ _ _ (by first|exact HIs1.out|exact HIs2.out) _).mono ?_;rintro e w1 ⟨rfl,hb1⟩;exact ⟨rfl,⟨w1,HSB.out s w1 hb1⟩,rfl⟩)|(go_at_call 155;(try rw [hn60]);refine (HMO.out _).mono ?_;rintro e w1 ⟨rfl,hb1⟩;exact ⟨rfl,⟨w1,HSB.out s w1 hb1⟩,rfl⟩))))
      refine wpQuiet_nil ?_
      intro _ hw'
      obtain ⟨s,hw''⟩:=hw'
      subst hw''
      have HBF:=H_ (HSC.out s).1
      go_wp2_with fail
      go_ret
      exact ⟨ret_bool HR.out.symm,HBF.out⟩
  ·have hlt2:¬(k:Int)<(len:Int):=by omega
   obtain rfl:k=len:=by omega
   have HR:Hid (R=decide (hsum (hs.take k)=su)):=H_ (by rw [HDO.out (by rw [←HL.out];exact HK.out),List.take_of_length_le (by have:=HL.out;omega)])
   generalize hsum (hs.take k)=T at *
   by_cases hz:T=su
   ·rw [decide_eq_true hz] at HR
    go_wp2_with fail
    go_ret
    exact ⟨ret_bool (by rw [HR.out];try simp [hz]),HB.out⟩
   ·rw [decide_eq_false hz] at HR
    go_wp2_with fail
    go_ret
    exact ⟨ret_bool (by rw [HR.out];try simp [hz]),HB.out⟩
end WinR
end Go.Proofs.YtnceeaccbcfopaaGreatDoor
