/-
  What the model calls a window's right tags. The conditions: at most 1048576 tags of at most 1048576 bytes.
  A region that draws its order, in a class of worlds that all hold some facts: one walk of the order of the text serves. No condition.
  What the model calls a window's right hours. The conditions: at most 12 hours; the sum is one that may be.
  What the model calls a right window. The conditions: texts of at most 1048576 bytes, at most 1048576 tags.
-/
import Derived.BigQuiet
import Derived.Deep.QuietTactic
import Derived.Test.YteejpnkmnmoebaaDoorJ9
namespace Go.Proofs.YteejpnkmnmoebaaDoor
open Go.ChangeShapes Go.WideShapes Go.ChangeAt Go.RowKit
set_option linter.unusedVariables false
namespace WinR
open RowG LtR
theorem tag_word (X:ByteArray):(WordR.printB X&&decide ((X.size:Int)≤10))=EvtR.tagB X:=by
 unfold EvtR.tagB
 rw [Bool.and_comm]
 congr 1
 exact decide_eq_decide.2 (by omega)
theorem ok_none {X:ByteArray} (h:X.size=0):tagOk X=false:=by unfold tagOk;rw [decide_eq_false (by omega),Bool.false_and]
theorem ok_some {X:ByteArray} (h:X.size≠0):tagOk X=EvtR.tagB X:=by unfold tagOk;rw [decide_eq_true (by omega),Bool.true_and]
set_option maxRecDepth 100000 in
set_option maxHeartbeats 4000000 in
theorem spec_tags (ao:Option Addr) (cap:Nat) (ts:List ByteArray) (w:World) (hlen:ts.length≤1048576) (hS:∀t∈ts,t.size≤1048576) (hI:Tgs ao ts w) :
 Calls Tryd.prog 28 #[.slice ao ts.length cap] w fun e w'=>e=.returned (.bool (tagsB ts))∧Below w.heap.size w w':=by
 have HI:=H_ hI
 have HS:=H_ hS
 have HBA:=H_ (fun k=>tags_bad (ts:=ts) (k:=k))
 have HDO:=H_ (tags_done (ts:=ts))
 generalize tagsB ts=R at *
 obtain ⟨len,hl⟩:∃len,len=ts.length:=⟨_,rfl⟩
 rw [←hl] at hlen ⊢
 have HL:=H_ hl
 clear hI hl hS
 go_enter Tryd.func28,Tryd.ntmps28
 go_wp2_with fail
 go_loopw [3] (fun z wr=>∃k:Nat,k≤len∧z=.int .i64 k∧Hid (TUp ts k)∧Hid (Below w.heap.size w wr)) (fun z _=>len-(intOf z).toNat)
 case atStart=>exact ⟨0,by omega,rfl,H_ (TUp.zero ts),H_ (Below.refl _ _)⟩
 case round =>
  obtain ⟨k,hk,rfl,HK,HB⟩:=hrel
  by_cases hlt:k<len
  ·have hlt2:(k:Int)<(len:Int):=by omega
   have hkl:k<ts.length:=by have:=HL.out;omega
   obtain ⟨b,off,rfl,hbl,c0⟩:=(HI.out.below HB.out).at k hkl
   have hsz:=HS.out _ (getD_mem (z:=tz) ts k hkl)
   have H1:=H_ (fun w=>WordR.spec_word (ts.getD k tz) 10 w hsz)
   rw [tag_word] at H1
   have HB1:=H_ (fun h=>HBA.out k hkl (.inl h))
   have HB2:=H_ (fun h0 h=>HBA.out k hkl (.inr ⟨h0,h⟩))
   have HM:=H_ (fun h1 h2=>HK.out.more hkl h1 h2)
   have HO0:=H_ (ok_none (X:=ts.getD k tz))
   have HO1:=H_ (ok_some (X:=ts.getD k tz))
   rcases (show k=0∨∃j,j+1=k from by rcases k with _|j;exact .inl rfl;exact .inr ⟨j,rfl⟩) with rfl|⟨j,hkj⟩
   ·simp only [Nat.add_zero] at c0
    generalize ts.getD 0 tz=X at *
    by_cases hi:X.size=0
    ·have he:=EvtR.empty_of X hi
     have HR:Hid (R=false):=H_ (HB1.out (HO0.out hi))
     go_wp2_with fail
     go_quiet ((go_at_call 54;exact Calls.quiet_of_same (H1.out _)))
     go_wp2_with fail
     go_ret
     exact ⟨ret_bool HR.out.symm,bdN HB.out _⟩
    ·obtain ⟨he,he2⟩:=EvtR.full_of X hi
     have HO2:=H_ (HO1.out hi)
     generalize EvtR.tagB X=g at *
     cases g
     ·have HR:Hid (R=false):=H_ (HB1.out HO2.out)
      go_wp2_with fail
      go_quiet ((go_at_call 54;exact Calls.quiet_of_same (H1.out _)))
      go_wp2_with fail
      go_ret
      exact ⟨ret_bool HR.out.symm,bdN HB.out _⟩
     ·have HM2:=H_ (HM.out HO2.out (fun h=>absurd h (by omega)))
      go_wp2_with fail
      go_quiet ((go_at_call 54;exact Calls.quiet_of_same (H1.out _)))
      go_wp2_with fail
      go_roundw
      case rel=>exact ⟨0+1,by omega,by go_num,HM2,H_ (bdN HB.out _)⟩
      case measure=>simp [intOf];omega
   ·obtain ⟨b',off',hbo,hbl',d0⟩:=(HI.out.below HB.out).at j (by omega)
    obtain ⟨rfl,rfl⟩:b=b'∧off=off':=by simpa using hbo
    have hj1:IntKind.i64.wrap ((k:Int)-1)=(j:Int):=by rw [IntKind.wrap_i64];omega
    have hj2:0<k:=by omega
    have hj3:(j:Int)<(len:Int):=by omega
    rw [show k-1=j by omega] at HB2 HM
    clear hbl' hbo hkj
    generalize ts.getD k tz=X at *
    generalize ts.getD j tz=Y at *
    by_cases hi:X.size=0
    ·have he:=EvtR.empty_of X hi
     have HR:Hid (R=false):=H_ (HB1.out (HO0.out hi))
     go_wp2_with fail
     go_quiet ((go_at_call 54;exact Calls.quiet_of_same (H1.out _)))
     go_wp2_with fail
     go_ret
     exact ⟨ret_bool HR.out.symm,bdN HB.out _⟩
    ·obtain ⟨he,he2⟩:=EvtR.full_of X hi
     have HO2:=H_ (HO1.out hi)
     generalize EvtR.tagB X=g at *
     cases g
     ·have HR:Hid (R=false):=H_ (HB1.out HO2.out)
      go_wp2_with fail
      go_quiet ((go_at_call 54;exact Calls.quiet_of_same (H1.out _)))
      go_wp2_with fail
      go_ret
      exact ⟨ret_bool HR.out.symm,bdN HB.out _⟩
     ·cases hq:Op.bytesLess Y.toList X.toList
      ·have HR:Hid (R=false):=H_ (HB2.out hj2 hq)
       go_wp2_with fail
       go_quiet ((go_at_call 54;exact Calls.quiet_of_same (H1.out _)))
       go_wp2_with fail
       go_ret
       exact ⟨ret_bool HR.out.symm,bdN HB.out _⟩
      ·have HM2:=H_ (HM.out HO2.out (fun _=>hq))
       go_wp2_with fail
       go_quiet ((go_at_call 54;exact Calls.quiet_of_same (H1.out _)))
       go_wp2_with fail
       go_roundw
       case rel=>exact ⟨k+1,by omega,by go_num,HM2,H_ (bdN HB.out _)⟩
       case measure=>simp [intOf];omega
  ·have hlt2:¬(k:Int)<(len:Int):=by omega
   obtain rfl:k=len:=by omega
   have HR:Hid (R=decide (k≤12)):=H_ (by rw [HDO.out (by rw [←HL.out];exact HK.out),←HL.out])
   by_cases h12:k≤12
   ·rw [decide_eq_true h12] at HR
    have h12':(k:Int)≤12:=by omega
    go_wp2_with fail
    go_ret
    exact ⟨ret_bool HR.out.symm,HB.out⟩
   ·rw [decide_eq_false h12] at HR
    have h12':¬(k:Int)≤12:=by omega
    go_wp2_with fail
    go_ret
    exact ⟨ret_bool HR.out.symm,HB.out⟩
end WinR
end Go.Proofs.YteejpnkmnmoebaaDoor
namespace Go.Proofs.YteejpnkmnmoebaaDoor
open Go.ChangeShapes Go.WideShapes Go.ChangeAt Go.RowKit
structure HW (S:World→Prop) where
 w:World
 h:S w
theorem wp_region_hw {P:Program} {id:Nat} {Q:Exit→Act→World→Prop} {a:Act} {w:World} {l:List Oper} (S:World→Prop) (hm:P.follows .mixedOrders=true) (hB:Region.lexB .any l.toArray=true) (hC:S w.drew)
 (h:wpQuiet P l.toArray (fun w'=>∃s:HW S,w'=s.w) (fun a'=>∀w',(∃s:HW S,w'=s.w)→Q .normal a' w') l a):(Code.region id l.toArray true).wp P Q a w :=
 wp_region_quiet (C:=fun w'=>∃s:HW S,w'=s.w) hm hB ⟨⟨_,hC⟩,rfl⟩ (by simpa using h)
end Go.Proofs.YteejpnkmnmoebaaDoor
namespace Go.Proofs.YteejpnkmnmoebaaDoor
open Go.ChangeShapes Go.WideShapes Go.ChangeAt Go.RowKit
set_option linter.unusedVariables false
namespace WinR
open RowG LtR
def SHt (w:World) (b o o':Nat) (x y:H) (W:World):Prop:=Below w.heap.size w W∧b<W.heap.size∧W.cell? ⟨b,o,none⟩=some (.int .i64 x.h)∧W.cell? ⟨b,o+1,none⟩=some (.int .i64 x.s)∧W.cell? ⟨b,o',none⟩=some (.int .i64 y.h)
theorem SHt.below {w:World} {b o o':Nat} {x y:H} {W W':World} (h:SHt w b o o' x y W) (hb:Below W.heap.size W W'):SHt w b o o' x y W':=by
 obtain ⟨h0,h1,c0,c1,c2⟩:=h
 have c:=fun o=>hb.cell (p:=⟨b,o,none⟩) h1
 have:=hb.size
 exact ⟨h0.trans (hb.mono h0.size),by omega,(c _).trans c0,(c _).trans c1,(c _).trans c2⟩
theorem ok_far {mo su:Int} {x:H} (h:¬(0≤x.h∧x.h≤2016666)):hOk mo su x=false:=by unfold hOk;rw [hour_far h,Bool.false_and]
theorem ok_in {mo su:Int} {x:H} {v:Int} {k:Nat} (h1:0≤x.h) (h2:x.h≤2016666) (hv:v=(k:Int)) (f1:DateM.fd k≤60*x.h / 1440) (f2:60*x.h / 1440<DateM.fd (k+1)):hOk mo su x=(decide (v=mo)&&decide (0≤x.s∧x.s≤su)):=by
 unfold hOk
 rw [hour_month h1 h2 k hv f1 f2]
theorem is_any (n low high:Int) (w:World) :
 Calls Tryd.prog 27 #[.int .i64 n,.int .i64 low,.int .i64 high] w fun e w'=>e=.returned (.bool (decide (low≤n∧n≤high)))∧Below w.heap.size w w' :=
 (EvtR.is_any n low high w).mono fun e w' ⟨h1,h2⟩=>by subst h2;exact ⟨h1,Below.refl _ _⟩
theorem is_lit (n low high:Int) (b:Bool) (hb:b=decide (low≤n∧n≤high)) (w:World) :
 Calls Tryd.prog 27 #[.int .i64 n,.int .i64 low,.int .i64 high] w fun e w'=>e=.returned (.bool b)∧Below w.heap.size w w':=by
 rw [hb];exact is_any n low high w
set_option maxRecDepth 100000 in
set_option maxHeartbeats 8000000 in
theorem spec_hours (ao:Option Addr) (cap:Nat) (hs:List H) (mo su:Int) (w:World) (hlen:hs.length≤12) (hsu:0≤su∧su≤1000000000000) (hI:Hrs ao hs w) :
 Calls Tryd.prog 29 #[.slice ao hs.length cap,.int .i64 mo,.int .i64 su] w fun e w'=>e=.returned (.bool (hoursB hs mo su))∧Below w.heap.size w w':=by
 have HI:=H_ hI
 have HBA:=H_ (fun k=>hours_bad (hs:=hs) (mo:=mo) (su:=su) (k:=k))
 have HDO:=H_ (hours_done (hs:=hs) (mo:=mo) (su:=su))
 generalize hoursB hs mo su=R at *
 obtain ⟨len,hl⟩:∃len,len=hs.length:=⟨_,rfl⟩
 rw [←hl] at hlen ⊢
 have HL:=H_ hl
 obtain ⟨hs0,hs1⟩:=hsu
 clear hI hl
 go_enter Tryd.func29,Tryd.ntmps29
 go_wp2_with fail
 go_loopw [7,8] (fun y z wr=>∃k:Nat,k≤len∧y=.int .i64 (hsum (hs.take k))∧z=.int .i64 k∧Hid (SUp hs mo su k)∧Hid (Below w.heap.size w wr)) (fun y z _=>len-(intOf z).toNat)
 case atStart=>exact ⟨0,by omega,by simp [hsum],rfl,H_ (SUp.zero hs mo su),H_ (Below.refl _ _)⟩
 case round =>
  obtain ⟨k,hk,rfl,rfl,HK,HB⟩:=hrel
  by_cases hlt1:k<len
  ·have hlt2:(k:Int)<(len:Int):=by omega
   have hkl:k<hs.length:=by have:=HL.out;omega
   have HSS:=H_ (HK.out.sum hs0 (by omega))
   have hT0:0≤hsum (hs.take k):=HSS.out.1
   have hT1:hsum (hs.take k)≤12000000000000:=by
    have h1:=HSS.out.2
    have h2:su*(k:Int)≤1000000000000*12:=Int.mul_le_mul hs1 (by omega) (by omega) (by omega)
    omega
   have HST:=H_ (hsum_take hs k hkl)
   obtain ⟨b,off,rfl,hbl,c0,c1⟩:=(HI.out.below HB.out).at k hkl
   have HB1:=H_ (fun h=>HBA.out k hkl (.inl h))
   have HB2:=H_ (fun h0 h=>HBA.out k hkl (.inr ⟨h0,h⟩))
   have HM:=H_ (fun h1 h2=>HK.out.more hkl h1 h2)
   generalize hsum (hs.take k)=T at *
   rcases (show k=0∨∃j,j+1=k from by rcases k with _|j;exact .inl rfl;exact .inr ⟨j,rfl⟩) with rfl|⟨j,hkj⟩
   ·simp only [Nat.zero_mul,Nat.add_zero] at c0 c1
    generalize hs.getD 0 H.zero=X at *
    obtain ⟨xh,xs⟩:=X
    dsimp only at c0 c1 HST
    have d0:=c0
    obtain ⟨yh,hyh⟩:∃yh,yh=xh:=⟨_,rfl⟩
    rw [←hyh] at d0
    obtain ⟨ys,hys⟩:∃ys:Int,ys=0:=⟨_,rfl⟩
    clear hyh hys
    have HS0:Hid (SHt w b (off) (off) ⟨xh,xs⟩ ⟨yh,ys⟩ wr):=H_ ⟨HB.out,hbl,c0,c1,d0⟩
    obtain ⟨S,hS⟩:∃S:World→Prop,∀W,S W↔SHt w b (off) (off) ⟨xh,xs⟩ ⟨yh,ys⟩ W:=⟨_,fun _=>Iff.rfl⟩
    have HSC:Hid (∀s:HW S,SHt w b (off) (off) ⟨xh,xs⟩ ⟨yh,ys⟩ s.w):=H_ (fun s=>(hS _).1 s.h)
    have HSB:Hid (∀(s:HW S) w',Below s.w.heap.size s.w w'→S w'):=H_ (fun s w' hb=>(hS _).2 ((HSC.out s).below hb))
    have HSD:Hid (S wr.drew):=H_ ((hS _).2 (HS0.out.below (Below.refl _ _).drew))
    have hne:Nonempty (HW S):=⟨⟨_,HSD.out⟩⟩
    have f0:∀s:HW S,s.w.cell? ⟨b,off,none⟩=some (.int .i64 xh):=fun s=>(HSC.out s).2.2.1
    have f1:∀s:HW S,s.w.cell? ⟨b,off+1,none⟩=some (.int .i64 xs):=fun s=>(HSC.out s).2.2.2.1
    clear hS
    rcases (show (¬0≤xh)∨(0≤xh∧¬xh≤2016666)∨(0≤xh∧xh≤2016666) by omega) with p1|⟨p1,p2⟩|⟨p1,p2⟩
    ·have HR:Hid (R=false):=H_ (HB1.out (ok_far (fun h=>p1 h.1)))
     have HIs1:Hid (false=decide (0≤xh∧xh≤2016666)):=H_ (decide_eq_false (by omega)).symm
     have HIs2:=HIs1
     go_wp2_with fail
     refine wp_region_hw S (by kernel_rfl) (by kernel_rfl) HSD.out ?_
     repeat (go_big_quiet_step ((rename_i s;first|(go_at_call 27;refine (is_lit _ _ _ _ (by first|exact HIs1.out|exact HIs2.out) _).mono ?_;rintro e w1 ⟨rfl,hb1⟩;exact ⟨rfl,⟨w1,HSB.out s w1 hb1⟩,rfl⟩))))
     refine wpQuiet_nil ?_
     intro _ hw'
     obtain ⟨s,hw''⟩:=hw'
     subst hw''
     have HBF:=H_ (HSC.out s).1
     go_wp2_with fail
     go_ret
     exact ⟨ret_bool HR.out.symm,HBF.out⟩
    ·have HR:Hid (R=false):=H_ (HB1.out (ok_far (fun h=>p2 h.2)))
     have HIs1:Hid (false=decide (0≤xh∧xh≤2016666)):=H_ (decide_eq_false (by omega)).symm
     have HIs2:=HIs1
     go_wp2_with fail
     refine wp_region_hw S (by kernel_rfl) (by kernel_rfl) HSD.out ?_
     repeat (go_big_quiet_step ((rename_i s;first|(go_at_call 27;refine (is_lit _ _ _ _ (by first|exact HIs1.out|exact HIs2.out) _).mono ?_;rintro e w1 ⟨rfl,hb1⟩;exact ⟨rfl,⟨w1,HSB.out s w1 hb1⟩,rfl⟩))))
     refine wpQuiet_nil ?_
     intro _ hw'
     obtain ⟨s,hw''⟩:=hw'
     subst hw''
     have HBF:=H_ (HSC.out s).1
     go_wp2_with fail
     go_ret
     exact ⟨ret_bool HR.out.symm,HBF.out⟩
    ·obtain ⟨K,K1,F1,F2,_,hms⟩:=month_two (60*xh) (by omega) (by omega)
     have HMO:=H_ hms
     have HOK:=H_ (ok_in (mo:=mo) (su:=su) (x:=⟨xh,xs⟩) p1 p2 (v:=(K:Int)) rfl F1 F2)
     generalize hn60:60*xh=n at *
     clear hms F1 F2
     have HIs1:Hid (true=decide (0≤xh∧xh≤2016666)):=H_ (decide_eq_true ⟨p1,p2⟩).symm
     by_cases hmo:(K:Int)=mo
     ·rw [decide_eq_true hmo,Bool.true_and] at HOK
      have hmo2:((K:Int) != mo)=false:=by simp [hmo]
      by_cases hin:0≤xs∧xs≤su
      ·have HM2:=H_ (HM.out (by rw [HOK.out,decide_eq_true hin]) (fun h=>absurd h (by omega)))
       have HIs2:Hid (true=decide (0≤xs∧xs≤su)):=H_ (decide_eq_true hin).symm
       obtain ⟨hin1,hin2⟩:=hin
       go_wp2_with fail
       refine wp_region_hw S (by kernel_rfl) (by kernel_rfl) HSD.out ?_
       repeat (go_big_quiet_step ((rename_i s;first|(go_at_call 27;refine (is_lit _ _ _ _ (by first|exact HIs1.out|exact HIs2.out) _).mono ?_;rintro e w1 ⟨rfl,hb1⟩;exact ⟨rfl,⟨w1,HSB.out s w1 hb1⟩,rfl⟩)|(go_at_call 55;(try rw [hn60]);refine (HMO.out _).mono ?_;rintro e w1 ⟨rfl,hb1⟩;exact ⟨rfl,⟨w1,HSB.out s w1 hb1⟩,rfl⟩))))
       refine wpQuiet_nil ?_
       intro _ hw'
       obtain ⟨s,hw''⟩:=hw'
       subst hw''
       have HBF:=H_ (HSC.out s).1
       go_wp2_with fail
       go_roundw
       case rel=>exact ⟨0+1,by omega,by rw [HST.out],by go_num,HM2,HBF⟩
       case measure=>simp [intOf];omega
      ·have HR:Hid (R=false):=H_ (HB1.out (by rw [HOK.out,decide_eq_false hin]))
       have HIs2:Hid (false=decide (0≤xs∧xs≤su)):=H_ (decide_eq_false hin).symm
       go_wp2_with fail
       refine wp_region_hw S (by kernel_rfl) (by kernel_rfl) HSD.out ?_
       repeat (go_big_quiet_step ((rename_i s;first|(go_at_call 27;refine (is_lit _ _ _ _ (by first|exact HIs1.out|exact HIs2.out) _).mono ?_;rintro e w1 ⟨rfl,hb1⟩;exact ⟨rfl,⟨w1,HSB.out s w1 hb1⟩,rfl⟩)|(go_at_call 55;(try rw [hn60]);refine (HMO.out _).mono ?_;rintro e w1 ⟨rfl,hb1⟩;exact ⟨rfl,⟨w1,HSB.out s w1 hb1⟩,rfl⟩))))
       refine wpQuiet_nil ?_
       intro _ hw'
       obtain ⟨s,hw''⟩:=hw'
       subst hw''
       have HBF:=H_ (HSC.out s).1
       go_wp2_with fail
       go_ret
       exact ⟨ret_bool HR.out.symm,HBF.out⟩
     ·rw [decide_eq_false hmo,Bool.false_and] at HOK
      have HR:Hid (R=false):=H_ (HB1.out HOK.out)
      have hmo2:((K:Int) != mo)=true:=by simp [hmo]
      have HIs2:=HIs1
      go_wp2_with fail
      refine wp_region_hw S (by kernel_rfl) (by kernel_rfl) HSD.out ?_
      repeat (go_big_quiet_step ((rename_i s;first|(go_at_call 27;refine (is_lit _ _ _ _ (by first|exact HIs1.out|exact HIs2.out) _).mono ?_;rintro e w1 ⟨rfl,hb1⟩;exact ⟨rfl,⟨w1,HSB.out s w1 hb1⟩,rfl⟩)|(go_at_call 55;(try rw [hn60]);refine (HMO.out _).mono ?_;rintro e w1 ⟨rfl,hb1⟩;exact ⟨rfl,⟨w1,HSB.out s w1 hb1⟩,rfl⟩))))
      refine wpQuiet_nil ?_
      intro _ hw'
      obtain ⟨s,hw''⟩:=hw'
      subst hw''
      have HBF:=H_ (HSC.out s).1
      go_wp2_with fail
      go_ret
      exact ⟨ret_bool HR.out.symm,HBF.out⟩
   ·obtain ⟨b',off',hbo,hbl',d0,_⟩:=(HI.out.below HB.out).at j (by omega)
    obtain ⟨rfl,rfl⟩:b=b'∧off=off':=by simpa using hbo
    have hj1:IntKind.i64.wrap ((k:Int)-1)=(j:Int):=by rw [IntKind.wrap_i64];omega
    have hj2:0<k:=by omega
    have hj3:(j:Int)<(len:Int):=by omega
    rw [show k-1=j by omega] at HB2 HM
    clear hbl' hbo hkj
    generalize hs.getD k H.zero=X at *
    generalize hs.getD j H.zero=Y at *
    obtain ⟨xh,xs⟩:=X
    obtain ⟨yh,ys⟩:=Y
    dsimp only at c0 c1 d0 HST
    have HS0:Hid (SHt w b (off+k*2) (off+j*2) ⟨xh,xs⟩ ⟨yh,ys⟩ wr):=H_ ⟨HB.out,hbl,c0,c1,d0⟩
    obtain ⟨S,hS⟩:∃S:World→Prop,∀W,S W↔SHt w b (off+k*2) (off+j*2) ⟨xh,xs⟩ ⟨yh,ys⟩ W:=⟨_,fun _=>Iff.rfl⟩
    have HSC:Hid (∀s:HW S,SHt w b (off+k*2) (off+j*2) ⟨xh,xs⟩ ⟨yh,ys⟩ s.w):=H_ (fun s=>(hS _).1 s.h)
    have HSB:Hid (∀(s:HW S) w',Below s.w.heap.size s.w w'→S w'):=H_ (fun s w' hb=>(hS _).2 ((HSC.out s).below hb))
    have HSD:Hid (S wr.drew):=H_ ((hS _).2 (HS0.out.below (Below.refl _ _).drew))
    have hne:Nonempty (HW S):=⟨⟨_,HSD.out⟩⟩
    have f0:∀s:HW S,s.w.cell? ⟨b,off+k*2,none⟩=some (.int .i64 xh):=fun s=>(HSC.out s).2.2.1
    have f1:∀s:HW S,s.w.cell? ⟨b,off+k*2+1,none⟩=some (.int .i64 xs):=fun s=>(HSC.out s).2.2.2.1
    have f2:∀s:HW S,s.w.cell? ⟨b,off+j*2,none⟩=some (.int .i64 yh):=fun s=>(HSC.out s).2.2.2.2
    clear hS
    rcases (show (¬0≤xh)∨(0≤xh∧¬xh≤2016666)∨(0≤xh∧xh≤2016666) by omega) with p1|⟨p1,p2⟩|⟨p1,p2⟩
    ·have HR:Hid (R=false):=H_ (HB1.out (ok_far (fun h=>p1 h.1)))
     have HIs1:Hid (false=decide (0≤xh∧xh≤2016666)):=H_ (decide_eq_false (by omega)).symm
     have HIs2:=HIs1
     go_wp2_with fail
     refine wp_region_hw S (by kernel_rfl) (by kernel_rfl) HSD.out ?_
     repeat (go_big_quiet_step ((rename_i s;first|(go_at_call 27;refine (is_lit _ _ _ _ (by first|exact HIs1.out|exact HIs2.out) _).mono ?_;rintro e w1 ⟨rfl,hb1⟩;exact ⟨rfl,⟨w1,HSB.out s w1 hb1⟩,rfl⟩))))
     refine wpQuiet_nil ?_
     intro _ hw'
     obtain ⟨s,hw''⟩:=hw'
     subst hw''
     have HBF:=H_ (HSC.out s).1
     go_wp2_with fail
     go_ret
     exact ⟨ret_bool HR.out.symm,HBF.out⟩
    ·have HR:Hid (R=false):=H_ (HB1.out (ok_far (fun h=>p2 h.2)))
     have HIs1:Hid (false=decide (0≤xh∧xh≤2016666)):=H_ (decide_eq_false (by omega)).symm
     have HIs2:=HIs1
     go_wp2_with fail
     refine wp_region_hw S (by kernel_rfl) (by kernel_rfl) HSD.out ?_
     repeat (go_big_quiet_step ((rename_i s;first|(go_at_call 27;refine (is_lit _ _ _ _ (by first|exact HIs1.out|exact HIs2.out) _).mono ?_;rintro e w1 ⟨rfl,hb1⟩;exact ⟨rfl,⟨w1,HSB.out s w1 hb1⟩,rfl⟩))))
     refine wpQuiet_nil ?_
     intro _ hw'
     obtain ⟨s,hw''⟩:=hw'
     subst hw''
     have HBF:=H_ (HSC.out s).1
     go_wp2_with fail
     go_ret
     exact ⟨ret_bool HR.out.symm,HBF.out⟩
    ·obtain ⟨K,K1,F1,F2,_,hms⟩:=month_two (60*xh) (by omega) (by omega)
     have HMO:=H_ hms
     have HOK:=H_ (ok_in (mo:=mo) (su:=su) (x:=⟨xh,xs⟩) p1 p2 (v:=(K:Int)) rfl F1 F2)
     generalize hn60:60*xh=n at *
     clear hms F1 F2
     have HIs1:Hid (true=decide (0≤xh∧xh≤2016666)):=H_ (decide_eq_true ⟨p1,p2⟩).symm
     by_cases hmo:(K:Int)=mo
     ·rw [decide_eq_true hmo,Bool.true_and] at HOK
      have hmo2:((K:Int) != mo)=false:=by simp [hmo]
      by_cases hr:yh<xh
      ·have hr2:decide (xh≤yh)=false:=decide_eq_false (by omega)
       have hr3:(xh≤yh)=False:=eq_false (by omega)
       by_cases hin:0≤xs∧xs≤su
       ·have HM2:=H_ (HM.out (by rw [HOK.out,decide_eq_true hin]) (fun _=>by unfold hlt;exact decide_eq_true hr))
        have HIs2:Hid (true=decide (0≤xs∧xs≤su)):=H_ (decide_eq_true hin).symm
        obtain ⟨hin1,hin2⟩:=hin
        go_wp2_with fail
        refine wp_region_hw S (by kernel_rfl) (by kernel_rfl) HSD.out ?_
        repeat (go_big_quiet_step ((rename_i s;first|(go_at_call 27;refine (is_lit _ _ _ _ (by first|exact HIs1.out|exact HIs2.out) _).mono ?_;rintro e w1 ⟨rfl,hb1⟩;exact ⟨rfl,⟨w1,HSB.out s w1 hb1⟩,rfl⟩)|(go_at_call 55;(try rw [hn60]);refine (HMO.out _).mono ?_;rintro e w1 ⟨rfl,hb1⟩;exact ⟨rfl,⟨w1,HSB.out s w1 hb1⟩,rfl⟩))))
        refine wpQuiet_nil ?_
        intro _ hw'
        obtain ⟨s,hw''⟩:=hw'
        subst hw''
        have HBF:=H_ (HSC.out s).1
        go_wp2_with fail
        go_roundw
        case rel=>exact ⟨k+1,by omega,by rw [HST.out],by go_num,HM2,HBF⟩
        case measure=>simp [intOf];omega
       ·have HR:Hid (R=false):=H_ (HB1.out (by rw [HOK.out,decide_eq_false hin]))
        have HIs2:Hid (false=decide (0≤xs∧xs≤su)):=H_ (decide_eq_false hin).symm
        go_wp2_with fail
        refine wp_region_hw S (by kernel_rfl) (by kernel_rfl) HSD.out ?_
        repeat (go_big_quiet_step ((rename_i s;first|(go_at_call 27;refine (is_lit _ _ _ _ (by first|exact HIs1.out|exact HIs2.out) _).mono ?_;rintro e w1 ⟨rfl,hb1⟩;exact ⟨rfl,⟨w1,HSB.out s w1 hb1⟩,rfl⟩)|(go_at_call 55;(try rw [hn60]);refine (HMO.out _).mono ?_;rintro e w1 ⟨rfl,hb1⟩;exact ⟨rfl,⟨w1,HSB.out s w1 hb1⟩,rfl⟩))))
        refine wpQuiet_nil ?_
        intro _ hw'
        obtain ⟨s,hw''⟩:=hw'
        subst hw''
        have HBF:=H_ (HSC.out s).1
        go_wp2_with fail
        go_ret
        exact ⟨ret_bool HR.out.symm,HBF.out⟩
      ·have HR:Hid (R=false):=H_ (HB2.out hj2 (by unfold hlt;exact decide_eq_false hr))
       have hr2:xh≤yh:=by omega
       have HIs2:=HIs1
       go_wp2_with fail
       refine wp_region_hw S (by kernel_rfl) (by kernel_rfl) HSD.out ?_
       repeat (go_big_quiet_step ((rename_i s;first|(go_at_call 27;refine (is_lit _ _ _ _ (by first|exact HIs1.out|exact HIs2.out) _).mono ?_;rintro e w1 ⟨rfl,hb1⟩;exact ⟨rfl,⟨w1,HSB.out s w1 hb1⟩,rfl⟩)|(go_at_call 55;(try rw [hn60]);refine (HMO.out _).mono ?_;rintro e w1 ⟨rfl,hb1⟩;exact ⟨rfl,⟨w1,HSB.out s w1 hb1⟩,rfl⟩))))
       refine wpQuiet_nil ?_
       intro _ hw'
       obtain ⟨s,hw''⟩:=hw'
       subst hw''
       have HBF:=H_ (HSC.out s).1
       go_wp2_with fail
       go_ret
       exact ⟨ret_bool HR.out.symm,HBF.out⟩
     ·rw [decide_eq_false hmo,Bool.false_and] at HOK
      have HR:Hid (R=false):=H_ (HB1.out HOK.out)
      have hmo2:((K:Int) != mo)=true:=by simp [hmo]
      have HIs2:=HIs1
      go_wp2_with fail
      refine wp_region_hw S (by kernel_rfl) (by kernel_rfl) HSD.out ?_
      repeat (go_big_quiet_step ((rename_i s;first|(go_at_call 27;refine (is_lit _ _ _ _ (by first|exact HIs1.out|exact HIs2.out) _).mono ?_;rintro e w1 ⟨rfl,hb1⟩;exact ⟨rfl,⟨w1,HSB.out s w1 hb1⟩,rfl⟩)|(go_at_call 55;(try rw [hn60]);refine (HMO.out _).mono ?_;rintro e w1 ⟨rfl,hb1⟩;exact ⟨rfl,⟨w1,HSB.out s w1 hb1⟩,rfl⟩))))
      refine wpQuiet_nil ?_
      intro _ hw'
      obtain ⟨s,hw''⟩:=hw'
      subst hw''
      have HBF:=H_ (HSC.out s).1
      go_wp2_with fail
      go_ret
      exact ⟨ret_bool HR.out.symm,HBF.out⟩
  ·have hlt2:¬(k:Int)<(len:Int):=by omega
   obtain rfl:k=len:=by omega
   have HR:Hid (R=decide (hsum (hs.take k)=su)):=H_ (by rw [HDO.out (by rw [←HL.out];exact HK.out),List.take_of_length_le (by have:=HL.out;omega)])
   generalize hsum (hs.take k)=T at *
   by_cases hz:T=su
   ·rw [decide_eq_true hz] at HR
    go_wp2_with fail
    go_ret
    exact ⟨ret_bool (by rw [HR.out];try simp [hz]),HB.out⟩
   ·rw [decide_eq_false hz] at HR
    go_wp2_with fail
    go_ret
    exact ⟨ret_bool (by rw [HR.out];try simp [hz]),HB.out⟩
end WinR
namespace WinR
open RowG LtR
open CatR (Blk Blk.new)
theorem six (b1 b2 b3 b4 b5 b6:Bool):(b1=false)∨(b1=true∧b2=false)∨(b1=true∧b2=true∧b3=false)∨(b1=true∧b2=true∧b3=true∧b4=false)∨(b1=true∧b2=true∧b3=true∧b4=true∧b5=false)∨(b1=true∧b2=true∧b3=true∧b4=true∧b5=true∧b6=false)∨(b1=true∧b2=true∧b3=true∧b4=true∧b5=true∧b6=true):=by
 cases b1<;>cases b2<;>cases b3<;>cases b4<;>cases b5<;>cases b6<;>simp
theorem sisMonth_any (n:Int) (w:World):Calls Tryd.prog 26 #[.int .i64 n] w fun e w'=>e=.returned (.bool (decide (0≤n∧n≤2760)))∧w'=w:=by
 have H:=EvtR.is_any n 0 2760
 generalize decide (0≤n∧n≤2760)=b at *
 go_enter Tryd.func26,Tryd.ntmps26
 go_wp2_with (go_at_call 27;refine (H _).mono ?_;rintro e w' ⟨rfl,rfl⟩)
 go_ret
 exact ⟨rfl,rfl⟩
set_option maxRecDepth 100000 in
set_option maxHeartbeats 8000000 in
theorem sright_in (a m:ByteArray) (mo ev su mx:Int) (ta:Option Addr) (tl tc:Nat) (ha:Option Addr) (hl hc:Nat) (b1 b2 b3 b4 b5 b6 b7 b8:Bool) (w:World)
 (h1:∀W,Calls Tryd.prog 25 #[.string a] W fun e w'=>e=.returned (.bool b1)∧w'=W) (h2:∀W,Calls Tryd.prog 25 #[.string m] W fun e w'=>e=.returned (.bool b2)∧w'=W) (h3:∀W,Calls Tryd.prog 26 #[.int .i64 mo] W fun e w'=>e=.returned (.bool b3)∧w'=W) (h4:∀W,Calls Tryd.prog 27 #[.int .i64 ev,.int .i64 1,.int .i64 1000] W fun e w'=>e=.returned (.bool b4)∧w'=W) (h5:∀W,Calls Tryd.prog 27 #[.int .i64 su,.int .i64 0,.int .i64 1000000000000] W fun e w'=>e=.returned (.bool b5)∧w'=W) (h6:∀W,Calls Tryd.prog 27 #[.int .i64 mx,.int .i64 0,.int .i64 su] W fun e w'=>e=.returned (.bool b6)∧w'=W)
 (h7:∀W,Below w.heap.size w W→Calls Tryd.prog 28 #[.slice ta tl tc] W fun e w'=>e=.returned (.bool b7)∧Below W.heap.size W w')
 (h8:b5=true→hl≤12→∀W,Below w.heap.size w W→Calls Tryd.prog 29 #[.slice ha hl hc,.int .i64 mo,.int .i64 su] W fun e w'=>e=.returned (.bool b8)∧Below W.heap.size W w') :
 Calls Tryd.prog 12 #[.agg #[.string a,.string m,.int .i64 mo,.int .i64 ev,.int .i64 su,.int .i64 mx,.slice ta tl tc,.slice ha hl hc]] w fun e w'=>e=.returned (.bool ((b1&&(b2&&b3))&&((b4&&(b5&&b6))&&(b7&&(decide (1≤hl∧hl≤12)&&b8)))))∧Below w.heap.size w w':=by
 have H1:=H_ h1
 have H2:=H_ h2
 have H3:=H_ h3
 have H4:=H_ h4
 have H5:=H_ h5
 have H6:=H_ h6
 have H7:=H_ h7
 have H8:=H_ h8
 clear h1 h2 h3 h4 h5 h6 h7 h8
 have HB0:Hid (Below w.heap.size w (w.alloc (.cells #[.string a,.string m,.int .i64 mo,.int .i64 ev,.int .i64 su,.int .i64 mx,.slice ta tl tc,.slice ha hl hc] 26))):=H_ ((Below.refl _ _).alloc (Nat.le_refl _) _)
 have HX0:=H_ (Blk.new w [.string a,.string m,.int .i64 mo,.int .i64 ev,.int .i64 su,.int .i64 mx,.slice ta tl tc,.slice ha hl hc] 26)
 rcases six b1 b2 b3 b4 b5 b6 with rfl|⟨rfl,rfl⟩|⟨rfl,rfl,rfl⟩|⟨rfl,rfl,rfl,rfl⟩|⟨rfl,rfl,rfl,rfl,rfl⟩|⟨rfl,rfl,rfl,rfl,rfl,rfl⟩|⟨rfl,rfl,rfl,rfl,rfl,rfl⟩
 ·go_enter Tryd.func12,Tryd.ntmps12
  go_wp2_with fail
  refine (H1.out _).mono ?_
  rintro e w1 ⟨rfl,rfl⟩
  go_wp2_with fail
  go_ret
  exact ⟨ret_bool (by simp),HB0.out⟩
 ·go_enter Tryd.func12,Tryd.ntmps12
  go_wp2_with fail
  refine (H1.out _).mono ?_
  rintro e w1 ⟨rfl,rfl⟩
  go_wp2_with fail
  refine (H2.out _).mono ?_
  rintro e w1 ⟨rfl,rfl⟩
  go_wp2_with fail
  go_ret
  exact ⟨ret_bool (by simp),HB0.out⟩
 ·go_enter Tryd.func12,Tryd.ntmps12
  go_wp2_with fail
  refine (H1.out _).mono ?_
  rintro e w1 ⟨rfl,rfl⟩
  go_wp2_with fail
  refine (H2.out _).mono ?_
  rintro e w1 ⟨rfl,rfl⟩
  go_wp2_with fail
  refine (H3.out _).mono ?_
  rintro e w1 ⟨rfl,rfl⟩
  go_wp2_with fail
  go_ret
  exact ⟨ret_bool (by simp),HB0.out⟩
 ·go_enter Tryd.func12,Tryd.ntmps12
  go_wp2_with fail
  refine (H1.out _).mono ?_
  rintro e w1 ⟨rfl,rfl⟩
  go_wp2_with fail
  refine (H2.out _).mono ?_
  rintro e w1 ⟨rfl,rfl⟩
  go_wp2_with fail
  refine (H3.out _).mono ?_
  rintro e w1 ⟨rfl,rfl⟩
  go_wp2_with fail
  refine (H4.out _).mono ?_
  rintro e w1 ⟨rfl,rfl⟩
  go_wp2_with fail
  go_ret
  exact ⟨ret_bool (by simp),HB0.out⟩
 ·go_enter Tryd.func12,Tryd.ntmps12
  go_wp2_with fail
  refine (H1.out _).mono ?_
  rintro e w1 ⟨rfl,rfl⟩
  go_wp2_with fail
  refine (H2.out _).mono ?_
  rintro e w1 ⟨rfl,rfl⟩
  go_wp2_with fail
  refine (H3.out _).mono ?_
  rintro e w1 ⟨rfl,rfl⟩
  go_wp2_with fail
  refine (H4.out _).mono ?_
  rintro e w1 ⟨rfl,rfl⟩
  go_wp2_with fail
  refine (H5.out _).mono ?_
  rintro e w1 ⟨rfl,rfl⟩
  go_wp2_with fail
  go_ret
  exact ⟨ret_bool (by simp),HB0.out⟩
 ·go_enter Tryd.func12,Tryd.ntmps12
  go_wp2_with fail
  refine (H1.out _).mono ?_
  rintro e w1 ⟨rfl,rfl⟩
  go_wp2_with fail
  refine (H2.out _).mono ?_
  rintro e w1 ⟨rfl,rfl⟩
  go_wp2_with fail
  refine (H3.out _).mono ?_
  rintro e w1 ⟨rfl,rfl⟩
  go_wp2_with fail
  refine (H4.out _).mono ?_
  rintro e w1 ⟨rfl,rfl⟩
  go_wp2_with fail
  refine (H5.out _).mono ?_
  rintro e w1 ⟨rfl,rfl⟩
  go_wp2_with fail
  refine (H6.out _).mono ?_
  rintro e w1 ⟨rfl,rfl⟩
  go_wp2_with fail
  go_ret
  exact ⟨ret_bool (by simp),HB0.out⟩
 ·cases b7
  ·go_enter Tryd.func12,Tryd.ntmps12
   go_wp2_with fail
   refine (H1.out _).mono ?_
   rintro e w1 ⟨rfl,rfl⟩
   go_wp2_with fail
   refine (H2.out _).mono ?_
   rintro e w1 ⟨rfl,rfl⟩
   go_wp2_with fail
   refine (H3.out _).mono ?_
   rintro e w1 ⟨rfl,rfl⟩
   go_wp2_with fail
   refine (H4.out _).mono ?_
   rintro e w1 ⟨rfl,rfl⟩
   go_wp2_with fail
   refine (H5.out _).mono ?_
   rintro e w1 ⟨rfl,rfl⟩
   go_wp2_with fail
   refine (H6.out _).mono ?_
   rintro e w1 ⟨rfl,rfl⟩
   go_wp2_with fail
   refine (H7.out _ HB0.out).mono ?_
   rintro e w2 ⟨rfl,hb2⟩
   have HB2:=H_ (HB0.out.trans (hb2.mono HB0.out.size))
   clear hb2 HX0
   go_wp2_with fail
   go_ret
   exact ⟨ret_bool (by simp),HB2.out⟩
  ·rcases (show (¬1≤hl)∨(1≤hl∧¬hl≤12)∨(1≤hl∧hl≤12) by omega) with q|⟨q,q2⟩|⟨q,q2⟩
   ·have q':¬(1:Int)≤(hl:Int):=by omega
    rw [decide_eq_false (show ¬(1≤hl∧hl≤12) by omega)]
    go_enter Tryd.func12,Tryd.ntmps12
    go_wp2_with fail
    refine (H1.out _).mono ?_
    rintro e w1 ⟨rfl,rfl⟩
    go_wp2_with fail
    refine (H2.out _).mono ?_
    rintro e w1 ⟨rfl,rfl⟩
    go_wp2_with fail
    refine (H3.out _).mono ?_
    rintro e w1 ⟨rfl,rfl⟩
    go_wp2_with fail
    refine (H4.out _).mono ?_
    rintro e w1 ⟨rfl,rfl⟩
    go_wp2_with fail
    refine (H5.out _).mono ?_
    rintro e w1 ⟨rfl,rfl⟩
    go_wp2_with fail
    refine (H6.out _).mono ?_
    rintro e w1 ⟨rfl,rfl⟩
    go_wp2_with fail
    refine (H7.out _ HB0.out).mono ?_
    rintro e w2 ⟨rfl,hb2⟩
    have HB2:=H_ (HB0.out.trans (hb2.mono HB0.out.size))
    have HX2:=H_ (HX0.out.below hb2)
    clear hb2 HX0
    obtain ⟨xl,xc⟩:=HX2.out
    have y2:w2.cell? ⟨w.heap.size,2,none⟩=some (.int .i64 mo):=xc 2 (by simp)
    have y4:w2.cell? ⟨w.heap.size,4,none⟩=some (.int .i64 su):=xc 4 (by simp)
    have y7:w2.cell? ⟨w.heap.size,7,none⟩=some (.slice ha hl hc):=xc 7 (by simp)
    clear xc
    go_wp2_with fail
    go_ret
    exact ⟨ret_bool (by simp),HB2.out⟩
   ·have q':(1:Int)≤(hl:Int):=by omega
    have q2':¬(hl:Int)≤12:=by omega
    rw [decide_eq_false (show ¬(1≤hl∧hl≤12) by omega)]
    go_enter Tryd.func12,Tryd.ntmps12
    go_wp2_with fail
    refine (H1.out _).mono ?_
    rintro e w1 ⟨rfl,rfl⟩
    go_wp2_with fail
    refine (H2.out _).mono ?_
    rintro e w1 ⟨rfl,rfl⟩
    go_wp2_with fail
    refine (H3.out _).mono ?_
    rintro e w1 ⟨rfl,rfl⟩
    go_wp2_with fail
    refine (H4.out _).mono ?_
    rintro e w1 ⟨rfl,rfl⟩
    go_wp2_with fail
    refine (H5.out _).mono ?_
    rintro e w1 ⟨rfl,rfl⟩
    go_wp2_with fail
    refine (H6.out _).mono ?_
    rintro e w1 ⟨rfl,rfl⟩
    go_wp2_with fail
    refine (H7.out _ HB0.out).mono ?_
    rintro e w2 ⟨rfl,hb2⟩
    have HB2:=H_ (HB0.out.trans (hb2.mono HB0.out.size))
    have HX2:=H_ (HX0.out.below hb2)
    clear hb2 HX0
    obtain ⟨xl,xc⟩:=HX2.out
    have y2:w2.cell? ⟨w.heap.size,2,none⟩=some (.int .i64 mo):=xc 2 (by simp)
    have y4:w2.cell? ⟨w.heap.size,4,none⟩=some (.int .i64 su):=xc 4 (by simp)
    have y7:w2.cell? ⟨w.heap.size,7,none⟩=some (.slice ha hl hc):=xc 7 (by simp)
    clear xc
    go_wp2_with fail
    go_ret
    exact ⟨ret_bool (by simp),HB2.out⟩
   ·have q':(1:Int)≤(hl:Int):=by omega
    have q2':(hl:Int)≤12:=by omega
    rw [decide_eq_true (show 1≤hl∧hl≤12 by omega)]
    have H9:=H_ (H8.out rfl q2)
    go_enter Tryd.func12,Tryd.ntmps12
    go_wp2_with fail
    refine (H1.out _).mono ?_
    rintro e w1 ⟨rfl,rfl⟩
    go_wp2_with fail
    refine (H2.out _).mono ?_
    rintro e w1 ⟨rfl,rfl⟩
    go_wp2_with fail
    refine (H3.out _).mono ?_
    rintro e w1 ⟨rfl,rfl⟩
    go_wp2_with fail
    refine (H4.out _).mono ?_
    rintro e w1 ⟨rfl,rfl⟩
    go_wp2_with fail
    refine (H5.out _).mono ?_
    rintro e w1 ⟨rfl,rfl⟩
    go_wp2_with fail
    refine (H6.out _).mono ?_
    rintro e w1 ⟨rfl,rfl⟩
    go_wp2_with fail
    refine (H7.out _ HB0.out).mono ?_
    rintro e w2 ⟨rfl,hb2⟩
    have HB2:=H_ (HB0.out.trans (hb2.mono HB0.out.size))
    have HX2:=H_ (HX0.out.below hb2)
    clear hb2 HX0
    obtain ⟨xl,xc⟩:=HX2.out
    have y2:w2.cell? ⟨w.heap.size,2,none⟩=some (.int .i64 mo):=xc 2 (by simp)
    have y4:w2.cell? ⟨w.heap.size,4,none⟩=some (.int .i64 su):=xc 4 (by simp)
    have y7:w2.cell? ⟨w.heap.size,7,none⟩=some (.slice ha hl hc):=xc 7 (by simp)
    clear xc
    go_wp2_with fail
    refine (H9.out _ HB2.out).mono ?_
    rintro e w3 ⟨rfl,hb3⟩
    have HB3:=H_ (HB2.out.trans (hb3.mono HB2.out.size))
    clear hb3
    go_wp2_with fail
    go_ret
    exact ⟨ret_bool (by simp),HB3.out⟩
theorem spec_window_right (x:Wd) (ta:Option Addr) (tc:Nat) (ha:Option Addr) (hc:Nat) (w:World) (h1:x.a.size≤1048576) (h2:x.m.size≤1048576) (h3:x.ts.length≤1048576) (h4:∀t∈x.ts,t.size≤1048576) (hT:Tgs ta x.ts w) (hH:Hrs ha x.hs w) :
 Calls Tryd.prog 12 #[.agg (wcells x ta tc ha hc)] w fun e w'=>e=.returned (.bool (wB x))∧Below w.heap.size w w' :=
 sright_in x.a x.m x.mo x.ev x.su x.mx ta x.ts.length tc ha x.hs.length hc _ _ _ _ _ _ _ _ w (fun W=>NameR.spec_any x.a W h1) (fun W=>NameR.spec_any x.m W h2) (fun W=>sisMonth_any x.mo W) (fun W=>EvtR.is_any x.ev 1 1000 W) (fun W=>EvtR.is_any x.su 0 1000000000000 W) (fun W=>EvtR.is_any x.mx 0 x.su W) (fun W hW=>spec_tags ta tc x.ts W h3 h4 (hT.below hW)) (fun hs hl W hW=>spec_hours ha hc x.hs x.mo x.su W hl (of_decide_eq_true hs) (hH.below hW))
end WinR
end Go.Proofs.YteejpnkmnmoebaaDoor
