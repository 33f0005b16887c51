/-
  What the model calls a window's right hours. The conditions: at most 12 hours; the sum is one that may be.
-/
import Derived.Test.YtnceeaccbcfopaaGreatDoorT104
namespace Go.Proofs.YtnceeaccbcfopaaGreatDoor
open Go.ChangeShapes Go.WideShapes Go.ChangeAt Go.RowKit
set_option linter.unusedVariables false
namespace WinR
open RowG LtR
def SHt (w:World) (b o o':Nat) (x y:H) (W:World):Prop:=Below w.heap.size w W∧b<W.heap.size∧W.cell? ⟨b,o,none⟩=some (.int .i64 x.h)∧W.cell? ⟨b,o+1,none⟩=some (.int .i64 x.s)∧W.cell? ⟨b,o',none⟩=some (.int .i64 y.h)
theorem SHt.below {w:World} {b o o':Nat} {x y:H} {W W':World} (h:SHt w b o o' x y W) (hb:Below W.heap.size W W'):SHt w b o o' x y W':=by
 obtain ⟨h0,h1,c0,c1,c2⟩:=h
 have c:=fun o=>hb.cell (p:=⟨b,o,none⟩) h1
 have:=hb.size
 exact ⟨h0.trans (hb.mono h0.size),by omega,(c _).trans c0,(c _).trans c1,(c _).trans c2⟩
theorem ok_far {mo su:Int} {x:H} (h:¬(0≤x.h∧x.h≤2016666)):hOk mo su x=false:=by unfold hOk;rw [hour_far h,Bool.false_and]
theorem ok_in {mo su:Int} {x:H} {v:Int} {k:Nat} (h1:0≤x.h) (h2:x.h≤2016666) (hv:v=(k:Int)) (f1:DateM.fd k≤60*x.h / 1440) (f2:60*x.h / 1440<DateM.fd (k+1)):hOk mo su x=(decide (v=mo)&&decide (0≤x.s∧x.s≤su)):=by
 unfold hOk
 rw [hour_month h1 h2 k hv f1 f2]
theorem is_any (n low high:Int) (w:World) :
 Calls Tryz.prog 63 #[.int .i64 n,.int .i64 low,.int .i64 high] w fun e w'=>e=.returned (.bool (decide (low≤n∧n≤high)))∧Below w.heap.size w w' :=
 (EvtR.is_any n low high w).mono fun e w' ⟨h1,h2⟩=>by subst h2;exact ⟨h1,Below.refl _ _⟩
theorem is_lit (n low high:Int) (b:Bool) (hb:b=decide (low≤n∧n≤high)) (w:World) :
 Calls Tryz.prog 63 #[.int .i64 n,.int .i64 low,.int .i64 high] w fun e w'=>e=.returned (.bool b)∧Below w.heap.size w w':=by
 rw [hb];exact is_any n low high w
set_option maxRecDepth 100000 in
set_option maxHeartbeats 8000000 in
theorem spec_hours (ao:Option Addr) (cap:Nat) (hs:List H) (mo su:Int) (w:World) (hlen:hs.length≤12) (hsu:0≤su∧su≤1000000000000) (hI:Hrs ao hs w) :
 Calls Tryz.prog 111 #[.slice ao hs.length cap,.int .i64 mo,.int .i64 su] w fun e w'=>e=.returned (.bool (hoursB hs mo su))∧Below w.heap.size w w':=by
 have HI:=H_ hI
 have HBA:=H_ (fun k=>hours_bad (hs:=hs) (mo:=mo) (su:=su) (k:=k))
 have HDO:=H_ (hours_done (hs:=hs) (mo:=mo) (su:=su))
 generalize hoursB hs mo su=R at *
 obtain ⟨len,hl⟩:∃len,len=hs.length:=⟨_,rfl⟩
 rw [←hl] at hlen ⊢
 have HL:=H_ hl
 obtain ⟨hs0,hs1⟩:=hsu
 clear hI hl
 go_enter Tryz.func111,Tryz.ntmps111
 go_wp2_with fail
 go_loopw [7,8] (fun y z wr=>∃k:Nat,k≤len∧y=.int .i64 (hsum (hs.take k))∧z=.int .i64 k∧Hid (SUp hs mo su k)∧Hid (Below w.heap.size w wr)) (fun y z _=>len-(intOf z).toNat)
 case atStart=>exact ⟨0,by omega,by simp [hsum],rfl,H_ (SUp.zero hs mo su),H_ (Below.refl _ _)⟩
 case round =>
  obtain ⟨k,hk,rfl,rfl,HK,HB⟩:=hrel
  by_cases hlt1:k<len
  ·have hlt2:(k:Int)<(len:Int):=by omega
   have hkl:k<hs.length:=by have:=HL.out;omega
   have HSS:=H_ (HK.out.sum hs0 (by omega))
   have hT0:0≤hsum (hs.take k):=HSS.out.1
   have hT1:hsum (hs.take k)≤12000000000000:=by
    have h1:=HSS.out.2
    have h2:su*(k:Int)≤1000000000000*12:=Int.mul_le_mul hs1 (by omega) (by omega) (by omega)
    omega
   have HST:=H_ (hsum_take hs k hkl)
   obtain ⟨b,off,rfl,hbl,c0,c1⟩:=(HI.out.below HB.out).at k hkl
   have HB1:=H_ (fun h=>HBA.out k hkl (.inl h))
   have HB2:=H_ (fun h0 h=>HBA.out k hkl (.inr ⟨h0,h⟩))
   have HM:=H_ (fun h1 h2=>HK.out.more hkl h1 h2)
   generalize hsum (hs.take k)=T at *
   rcases (show k=0∨∃j,j+1=k from by rcases k with _|j;exact .inl rfl;exact .inr ⟨j,rfl⟩) with rfl|⟨j,hkj⟩
   ·simp only [Nat.zero_mul,Nat.add_zero] at c0 c1
    generalize hs.getD 0 H.zero=X at *
    obtain ⟨xh,xs⟩:=X
    dsimp only at c0 c1 HST
    have d0:=c0
    obtain ⟨yh,hyh⟩:∃yh,yh=xh:=⟨_,rfl⟩
    rw [←hyh] at d0
    obtain ⟨ys,hys⟩:∃ys:Int,ys=0:=⟨_,rfl⟩
    clear hyh hys
    have HS0:Hid (SHt w b (off) (off) ⟨xh,xs⟩ ⟨yh,ys⟩ wr):=H_ ⟨HB.out,hbl,c0,c1,d0⟩
    obtain ⟨S,hS⟩:∃S:World→Prop,∀W,S W↔SHt w b (off) (off) ⟨xh,xs⟩ ⟨yh,ys⟩ W:=⟨_,fun _=>Iff.rfl⟩
    have HSC:Hid (∀s:HW S,SHt w b (off) (off) ⟨xh,xs⟩ ⟨yh,ys⟩ s.w):=H_ (fun s=>(hS _).1 s.h)
    have HSB:Hid (∀(s:HW S) w',Below s.w.heap.size s.w w'→S w'):=H_ (fun s w' hb=>(hS _).2 ((HSC.out s).below hb))
    have HSD:Hid (S wr.drew):=H_ ((hS _).2 (HS0.out.below (Below.refl _ _).drew))
    have hne:Nonempty (HW S):=⟨⟨_,HSD.out⟩⟩
    have f0:∀s:HW S,s.w.cell? ⟨b,off,none⟩=some (.int .i64 xh):=fun s=>(HSC.out s).2.2.1
    have f1:∀s:HW S,s.w.cell? ⟨b,off+1,none⟩=some (.int .i64 xs):=fun s=>(HSC.out s).2.2.2.1
    clear hS
    rcases (show (¬0≤xh)∨(0≤xh∧¬xh≤2016666)∨(0≤xh∧xh≤2016666) by omega) with p1|⟨p1,p2⟩|⟨p1,p2⟩
    ·have HR:Hid (R=false):=H_ (HB1.out (ok_far (fun h=>p1 h.1)))
     have HIs1:Hid (false=decide (0≤xh∧xh≤2016666)):=H_ (decide_eq_false (by omega)).symm
     have HIs2:=HIs1
     go_wp2_with fail
     refine wp_region_hw S (by kernel_rfl) (by kernel_rfl) HSD.out ?_
     repeat (go_big_quiet_step ((rename_i s;first|(go_at_call 63;refine (is_lit _ _ _ _ (by first|exact HIs1.out|exact HIs2.out) _).mono ?_;rintro e w1 ⟨rfl,hb1⟩;exact ⟨rfl,⟨w1,HSB.out s w1 hb1⟩,rfl⟩))))
     refine wpQuiet_nil ?_
     intro _ hw'
     obtain ⟨s,hw''⟩:=hw'
     subst hw''
     have HBF:=H_ (HSC.out s).1
     go_wp2_with fail
     go_ret
     exact ⟨ret_bool HR.out.symm,HBF.out⟩
    ·have HR:Hid (R=false):=H_ (HB1.out (ok_far (fun h=>p2 h.2)))
     have HIs1:Hid (false=decide (0≤xh∧xh≤2016666)):=H_ (decide_eq_false (by omega)).symm
     have HIs2:=HIs1
     go_wp2_with fail
     refine wp_region_hw S (by kernel_rfl) (by kernel_rfl) HSD.out ?_
     repeat (go_big_quiet_step ((rename_i s;first|(go_at_call 63;refine (is_lit _ _ _ _ (by first|exact HIs1.out|exact HIs2.out) _).mono ?_;rintro e w1 ⟨rfl,hb1⟩;exact ⟨rfl,⟨w1,HSB.out s w1 hb1⟩,rfl⟩))))
     refine wpQuiet_nil ?_
     intro _ hw'
     obtain ⟨s,hw''⟩:=hw'
     subst hw''
     have HBF:=H_ (HSC.out s).1
     go_wp2_with fail
     go_ret
     exact ⟨ret_bool HR.out.symm,HBF.out⟩
    ·obtain ⟨K,K1,F1,F2,_,hms⟩:=month_two (60*xh) (by omega) (by omega)
     have HMO:=H_ hms
     have HOK:=H_ (ok_in (mo:=mo) (su:=su) (x:=⟨xh,xs⟩) p1 p2 (v:=(K:Int)) rfl F1 F2)
     generalize hn60:60*xh=n at *
     clear hms F1 F2
     have HIs1:Hid (true=decide (0≤xh∧xh≤2016666)):=H_ (decide_eq_true ⟨p1,p2⟩).symm
     by_cases hmo:(K:Int)=mo
     ·rw [decide_eq_true hmo,Bool.true_and] at HOK
      have hmo2:((K:Int) != mo)=false:=by simp [hmo]
      by_cases hin:0≤xs∧xs≤su
      ·have HM2:=H_ (HM.out (by rw [HOK.out,decide_eq_true hin]) (fun h=>absurd h (by omega)))
       have HIs2:Hid (true=decide (0≤xs∧xs≤su)):=H_ (decide_eq_true hin).symm
       obtain ⟨hin1,hin2⟩:=hin
       go_wp2_with fail
       refine wp_region_hw S (by kernel_rfl) (by kernel_rfl) HSD.out ?_
       repeat (go_big_quiet_step ((rename_i s;first|(go_at_call 63;refine (is_lit _ _ _ _ (by first|exact HIs1.out|exact HIs2.out) _).mono ?_;rintro e w1 ⟨rfl,hb1⟩;exact ⟨rfl,⟨w1,HSB.out s w1 hb1⟩,rfl⟩)|(go_at_call 155;(try rw [hn60]);refine (HMO.out _).mono ?_;rintro e w1 ⟨rfl,hb1⟩;exact ⟨rfl,⟨w1,HSB.out s w1 hb1⟩,rfl⟩))))
       refine wpQuiet_nil ?_
       intro _ hw'
       obtain ⟨s,hw''⟩:=hw'
       subst hw''
       have HBF:=H_ (HSC.out s).1
       go_wp2_with fail
       go_roundw
       case rel=>exact ⟨0+1,by omega,by rw [HST.out],by go_num,HM2,HBF⟩
       case measure=>simp [intOf];omega
      ·have HR:Hid (R=false):=H_ (HB1.out (by rw [HOK.out,decide_eq_false hin]))
       have HIs2:Hid (false=decide (0≤xs∧xs≤su)):=H_ (decide_eq_false hin).symm
       go_wp2_with fail
       refine wp_region_hw S (by kernel_rfl) (by kernel_rfl) HSD.out ?_
       repeat (go_big_quiet_step ((rename_i s;first|(go_at_call 63;refine (is_lit _ _ _ _ (by first|exact HIs1.out|exact HIs2.out) _).mono ?_;rintro e w1 ⟨rfl,hb1⟩;exact ⟨rfl,⟨w1,HSB.out s w1 hb1⟩,rfl⟩)|(go_at_call 155;(try rw [hn60]);refine (HMO.out _).mono ?_;rintro e w1 ⟨rfl,hb1⟩;exact ⟨rfl,⟨w1,HSB.out s w1 hb1⟩,rfl⟩))))
       refine wpQuiet_nil ?_
       intro _ hw'
       obtain ⟨s,hw''⟩:=hw'
       subst hw''
       have HBF:=H_ (HSC.out s).1
       go_wp2_with fail
       go_ret
       exact ⟨ret_bool HR.out.symm,HBF.out⟩
     ·rw [decide_eq_false hmo,Bool.false_and] at HOK
      have HR:Hid (R=false):=H_ (HB1.out HOK.out)
      have hmo2:((K:Int) != mo)=true:=by simp [hmo]
      have HIs2:=HIs1
      go_wp2_with fail
      refine wp_region_hw S (by kernel_rfl) (by kernel_rfl) HSD.out ?_
      repeat (go_big_quiet_step ((rename_i s;first|(go_at_call 63;refine (is_lit _ _ _ _ (by first|exact HIs1.out|exact HIs2.out) _).mono ?_;rintro e w1 ⟨rfl,hb1⟩;exact ⟨rfl,⟨w1,HSB.out s w1 hb1⟩,rfl⟩)|(go_at_call 155;(try rw [hn60]);refine (HMO.out _).mono ?_;rintro e w1 ⟨rfl,hb1⟩;exact ⟨rfl,⟨w1,HSB.out s w1 hb1⟩,rfl⟩))))
      refine wpQuiet_nil ?_
      intro _ hw'
      obtain ⟨s,hw''⟩:=hw'
      subst hw''
      have HBF:=H_ (HSC.out s).1
      go_wp2_with fail
      go_ret
      exact ⟨ret_bool HR.out.symm,HBF.out⟩
   ·obtain ⟨b',off',hbo,hbl',d0,_⟩:=(HI.out.below HB.out).at j (by omega)
    obtain ⟨rfl,rfl⟩:b=b'∧off=off':=by simpa using hbo
    have hj1:IntKind.i64.wrap ((k:Int)-1)=(j:Int):=by rw [IntKind.wrap_i64];omega
    have hj2:0<k:=by omega
    have hj3:(j:Int)<(len:Int):=by omega
    rw [show k-1=j by omega] at HB2 HM
    clear hbl' hbo hkj
    generalize hs.getD k H.zero=X at *
    generalize hs.getD j H.zero=Y at *
    obtain ⟨xh,xs⟩:=X
    obtain ⟨yh,ys⟩:=Y
    dsimp only at c0 c1 d0 HST
    have HS0:Hid (SHt w b (off+k*2) (off+j*2) ⟨xh,xs⟩ ⟨yh,ys⟩ wr):=H_ ⟨HB.out,hbl,c0,c1,d0⟩
    obtain ⟨S,hS⟩:∃S:World→Prop,∀W,S W↔SHt w b (off+k*2) (off+j*2) ⟨xh,xs⟩ ⟨yh,ys⟩ W:=⟨_,fun _=>Iff.rfl⟩
    have HSC:Hid (∀s:HW S,SHt w b (off+k*2) (off+j*2) ⟨xh,xs⟩ ⟨yh,ys⟩ s.w):=H_ (fun s=>(hS _).1 s.h)
    have HSB:Hid (∀(s:HW S) w',Below s.w.heap.size s.w w'→S w'):=H_ (fun s w' hb=>(hS _).2 ((HSC.out s).below hb))
    have HSD:Hid (S wr.drew):=H_ ((hS _).2 (HS0.out.below (Below.refl _ _).drew))
    have hne:Nonempty (HW S):=⟨⟨_,HSD.out⟩⟩
    have f0:∀s:HW S,s.w.cell? ⟨b,off+k*2,none⟩=some (.int .i64 xh):=fun s=>(HSC.out s).2.2.1
    have f1:∀s:HW S,s.w.cell? ⟨b,off+k*2+1,none⟩=some (.int .i64 xs):=fun s=>(HSC.out s).2.2.2.1
    have f2:∀s:HW S,s.w.cell? ⟨b,off+j*2,none⟩=some (.int .i64 yh):=fun s=>(HSC.out s).2.2.2.2
    clear hS
    rcases (show (¬0≤xh)∨(0≤xh∧¬xh≤2016666)∨(0≤xh∧xh≤2016666) by omega) with p1|⟨p1,p2⟩|⟨p1,p2⟩
    ·have HR:Hid (R=false):=H_ (HB1.out (ok_far (fun h=>p1 h.1)))
     have HIs1:Hid (false=decide (0≤xh∧xh≤2016666)):=H_ (decide_eq_false (by omega)).symm
     have HIs2:=HIs1
     go_wp2_with fail
     refine wp_region_hw S (by kernel_rfl) (by kernel_rfl) HSD.out ?_
     repeat (go_big_quiet_step ((rename_i s;first|(go_at_call 63;refine (is_lit _ _ _ _ (by first|exact HIs1.out|exact HIs2.out) _).mono ?_;rintro e w1 ⟨rfl,hb1⟩;exact ⟨rfl,⟨w1,HSB.out s w1 hb1⟩,rfl⟩))))
     refine wpQuiet_nil ?_
     intro _ hw'
     obtain ⟨s,hw''⟩:=hw'
     subst hw''
     have HBF:=H_ (HSC.out s).1
     go_wp2_with fail
     go_ret
     exact ⟨ret_bool HR.out.symm,HBF.out⟩
    ·have HR:Hid (R=false):=H_ (HB1.out (ok_far (fun h=>p2 h.2)))
     have HIs1:Hid (false=decide (0≤xh∧xh≤2016666)):=H_ (decide_eq_false (by omega)).symm
     have HIs2:=HIs1
     go_wp2_with fail
     refine wp_region_hw S (by kernel_rfl) (by kernel_rfl) HSD.out ?_
     repeat (go_big_quiet_step ((rename_i s;first|(go_at_call 63;refine (is_lit _ _ _ _ (by first|exact HIs1.out|exact HIs2.out) _).mono ?_;rintro e w1 ⟨rfl,hb1⟩;exact ⟨rfl,⟨w1,HSB.out s w1 hb1⟩,rfl⟩))))
     refine wpQuiet_nil ?_
     intro _ hw'
     obtain ⟨s,hw''⟩:=hw'
     subst hw''
     have HBF:=H_ (HSC.out s).1
     go_wp2_with fail
     go_ret
     exact ⟨ret_bool HR.out.symm,HBF.out⟩
    ·obtain ⟨K,K1,F1,F2,_,hms⟩:=month_two (60*xh) (by omega) (by omega)
     have HMO:=H_ hms
     have HOK:=H_ (ok_in (mo:=mo) (su:=su) (x:=⟨xh,xs⟩) p1 p2 (v:=(K:Int)) rfl F1 F2)
     generalize hn60:60*xh=n at *
     clear hms F1 F2
     have HIs1:Hid (true=decide (0≤xh∧xh≤2016666)):=H_ (decide_eq_true ⟨p1,p2⟩).symm
     by_cases hmo:(K:Int)=mo
     ·rw [decide_eq_true hmo,Bool.true_and] at HOK
      have hmo2:((K:Int) != mo)=false:=by simp [hmo]
      by_cases hr:yh<xh
      ·have hr2:decide (xh≤yh)=false:=decide_eq_false (by omega)
       have hr3:(xh≤yh)=False:=eq_false (by omega)
       by_cases hin:0≤xs∧xs≤su
       ·have HM2:=H_ (HM.out (by rw [HOK.out,decide_eq_true hin]) (fun _=>by unfold hlt;exact decide_eq_true hr))
        have HIs2:Hid (true=decide (0≤xs∧xs≤su)):=H_ (decide_eq_true hin).symm
        obtain ⟨hin1,hin2⟩:=hin
        go_wp2_with fail
        refine wp_region_hw S (by kernel_rfl) (by kernel_rfl) HSD.out ?_
        repeat (go_big_quiet_step ((rename_i s;first|(go_at_call 63;refine (is_lit _ _ _ _ (by first|exact HIs1.out|exact HIs2.out) _).mono ?_;rintro e w1 ⟨rfl,hb1⟩;exact ⟨rfl,⟨w1,HSB.out s w1 hb1⟩,rfl⟩)|(go_at_call 155;(try rw [hn60]);refine (HMO.out _).mono ?_;rintro e w1 ⟨rfl,hb1⟩;exact ⟨rfl,⟨w1,HSB.out s w1 hb1⟩,rfl⟩))))
        refine wpQuiet_nil ?_
        intro _ hw'
        obtain ⟨s,hw''⟩:=hw'
        subst hw''
        have HBF:=H_ (HSC.out s).1
        go_wp2_with fail
        go_roundw
        case rel=>exact ⟨k+1,by omega,by rw [HST.out],by go_num,HM2,HBF⟩
        case measure=>simp [intOf];omega
       ·have HR:Hid (R=false):=H_ (HB1.out (by rw [HOK.out,decide_eq_false hin]))
        have HIs2:Hid (false=decide (0≤xs∧xs≤su)):=H_ (decide_eq_false hin).symm
        go_wp2_with fail
        refine wp_region_hw S (by kernel_rfl) (by kernel_rfl) HSD.out ?_
        repeat (go_big_quiet_step ((rename_i s;first|(go_at_call 63;refine (is_lit _ _ _ _ (by first|exact HIs1.out|exact HIs2.out) _).mono ?_;rintro e w1 ⟨rfl,hb1⟩;exact ⟨rfl,⟨w1,HSB.out s w1 hb1⟩,rfl⟩)|(go_at_call 155;(try rw [hn60]);refine (HMO.out _).mono ?_;rintro e w1 ⟨rfl,hb1⟩;exact ⟨rfl,⟨w1,HSB.out s w1 hb1⟩,rfl⟩))))
        refine wpQuiet_nil ?_
        intro _ hw'
        obtain ⟨s,hw''⟩:=hw'
        subst hw''
        have HBF:=H_ (HSC.out s).1
        go_wp2_with fail
        go_ret
        exact ⟨ret_bool HR.out.symm,HBF.out⟩
      ·have HR:Hid (R=false):=H_ (HB2.out hj2 (by unfold hlt;exact decide_eq_false hr))
       have hr2:xh≤yh:=by omega
       have HIs2:=HIs1
       go_wp2_with fail
       refine wp_region_hw S (by kernel_rfl) (by kernel_rfl) HSD.out ?_
       repeat (go_big_quiet_step ((rename_i s;first|(go_at_call 63;refine (is_lit _ _ _ _ (by first|exact HIs1.out|exact HIs2.out) _).mono ?_;rintro e w1 ⟨rfl,hb1⟩;exact ⟨rfl,⟨w1,HSB.out s w1 hb1⟩,rfl⟩)|(go_at_call 155;(try rw [hn60]);refine (HMO.out _).mono ?_;rintro e w1 ⟨rfl,hb1⟩;exact ⟨rfl,⟨w1,HSB.out s w1 hb1⟩,rfl⟩))))
       refine wpQuiet_nil ?_
       intro _ hw'
       obtain ⟨s,hw''⟩:=hw'
       subst hw''
       have HBF:=H_ (HSC.out s).1
       go_wp2_with fail
       go_ret
       exact ⟨ret_bool HR.out.symm,HBF.out⟩
     ·rw [decide_eq_false hmo,Bool.false_and] at HOK
      have HR:Hid (R=false):=H_ (HB1.out HOK.out)
      have hmo2:((K:Int) != mo)=true:=by simp [hmo]
      have HIs2:=HIs1
      go_wp2_with fail
      refine wp_region_hw S (by kernel_rfl) (by kernel_rfl) HSD.out ?_
      repeat (go_big_quiet_step ((rename_i s;first|(go_at_call 63;refine (is_lit _ _ _ _ (by first|exact HIs1.out|exact HIs2.out) _).mono ?_;rintro e w1 ⟨rfl,hb1⟩;exact ⟨rfl,⟨w1,HSB.out s w1 hb1⟩,rfl⟩)|(go_at_call 155;(try rw [hn60]);refine (HMO.out _).mono ?_;rintro e w1 ⟨rfl,hb1⟩;exact ⟨rfl,⟨w1,HSB.out s w1 hb1⟩,rfl⟩))))
      refine wpQuiet_nil ?_
      intro _ hw'
      obtain ⟨s,hw''⟩:=hw'
      subst hw''
      have HBF:=H_ (HSC.out s).1
      go_wp2_with fail
      go_ret
      exact ⟨ret_bool HR.out.symm,HBF.out⟩
  ·have hlt2:¬(k:Int)<(len:Int):=by omega
   obtain rfl:k=len:=by omega
   have HR:Hid (R=decide (hsum (hs.take k)=su)):=H_ (by rw [HDO.out (by rw [←HL.out];exact HK.out),List.take_of_length_le (by have:=HL.out;omega)])
   generalize hsum (hs.take k)=T at *
   by_cases hz:T=su
   ·rw [decide_eq_true hz] at HR
    go_wp2_with fail
    go_ret
    exact ⟨ret_bool (by rw [HR.out];try simp [hz]),HB.out⟩
   ·rw [decide_eq_false hz] at HR
    go_wp2_with fail
    go_ret
    exact ⟨ret_bool (by rw [HR.out];try simp [hz]),HB.out⟩
end WinR
end Go.Proofs.YtnceeaccbcfopaaGreatDoor
