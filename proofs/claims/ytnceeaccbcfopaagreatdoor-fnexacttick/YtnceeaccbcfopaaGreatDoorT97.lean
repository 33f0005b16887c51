/-
  An engine's sources are right: both sides say the same, whatever their marks. The condition: at most 1048576 sources with names of at most 1048576 bytes.
-/
import Derived.Test.YtnceeaccbcfopaaGreatDoorT96
namespace Go.Proofs.YtnceeaccbcfopaaGreatDoor
open Go.ChangeShapes Go.WideShapes Go.ChangeAt Go.RowKit
set_option linter.unusedVariables false
namespace EngR
open RowG LtR StxR OwG
open NameR (nameB)
open CatR (Cr Crs CrAt crs_at)
def nmS (ss:List Cr):List ByteArray:=ss.map (·.a)
theorem nmS_len (ss:List Cr):(nmS ss).length=ss.length:=List.length_map ..
theorem nmS_get (ss:List Cr) (k:Nat) (hk:k<ss.length):(nmS ss).getD k tz=(ss.getD k Cr.zero).a:=by simp [nmS,List.getD,hk]
def minB (m:Int):Bool:=decide (0≤m∧m≤121000000)
def MOk (ss:List Cr) (k:Nat):Prop:=∀i,i<k→minB (ss.getD i Cr.zero).m=true
def srcB (ss:List Cr):Bool:=ss.all (fun x=>minB x.m)&&nsB (nmS ss)
theorem srcB_mark {ss:List Cr} {k:Nat} (hk:k<ss.length) (h:minB (ss.getD k Cr.zero).m=false):srcB ss=false:=by
 unfold srcB
 rw [Bool.and_eq_false_iff]
 refine .inl (List.all_eq_false.2 ⟨ss[k],List.getElem_mem hk,?_⟩)
 simp only [List.getD,List.getElem?_eq_getElem hk,Option.getD_some] at h
 simp [h]
theorem srcB_name {ss:List Cr} (h:nsB (nmS ss)=false):srcB ss=false:=by unfold srcB;rw [h,Bool.and_false]
theorem srcB_all {ss:List Cr} (h:MOk ss ss.length):srcB ss=nsB (nmS ss):=by
 unfold srcB
 rw [List.all_eq_true.2 (fun x hx=>?_),Bool.true_and]
 obtain ⟨i,hi,rfl⟩:=List.getElem_of_mem hx
 have:=h i hi
 simpa [List.getD,hi] using this
theorem MOk.zero (ss:List Cr):MOk ss 0:=fun i h=>absurd h (by omega)
theorem MOk.more {ss:List Cr} {k:Nat} (h:MOk ss k) (h1:minB (ss.getD k Cr.zero).m=true):MOk ss (k+1):=by
 intro i hi
 by_cases e:i=k
 ·subst e;exact h1
 ·exact h i (by omega)
set_option maxRecDepth 100000 in
set_option maxHeartbeats 4000000 in
theorem spec_srcsA (ao:Option Addr) (cap:Nat) (ss:List Cr) (w:World) (hlen:ss.length≤1048576) (hS:∀i,i<ss.length→(ss.getD i Cr.zero).a.size≤1048576) (hI:Crs ao ss.length ss w) :
 Calls Tryz.prog 54 #[.slice ao ss.length cap] w fun e w'=>e=.returned (.bool (srcB ss))∧Below w.heap.size w w':=by
 obtain ⟨ns,hns⟩:∃z,z=nmS ss:=⟨_,rfl⟩
 have hnl:ns.length=ss.length:=by rw [hns];exact nmS_len ss
 have HT0:Hid (∀k,k<ss.length→¬(lt (ahd ns k) (ns.getD k tz)=true∧nameB (ns.getD k tz)=true)→srcB ss=false):=H_ (fun k hk h=>srcB_name (by rw [←hns];exact nsB_false (by omega) h))
 have HT1:Hid (∀k,k<ss.length→minB (ss.getD k Cr.zero).m=false→srcB ss=false):=H_ (fun k hk h=>srcB_mark hk h)
 have HTE:Hid (NOk ns ss.length→MOk ss ss.length→srcB ss=decide (1≤ss.length∧ss.length≤3)):=H_ (fun h h1=>by
  rw [srcB_all h1,←hns]
  rw [←hnl] at h ⊢
  by_cases e:1≤ns.length∧ns.length≤3
  ·rw [decide_eq_true e];exact nsB_yes ⟨e,h⟩
  ·rw [decide_eq_false e];exact nsB_no (fun hr=>e hr.1))
 have HN:Hid (∀k,k<ss.length→(ss.getD k Cr.zero).a=ns.getD k tz):=H_ (fun k hk=>by rw [hns,nmS_get ss k hk])
 clear hns hnl
 have HI:=H_ hI
 have HS:=H_ hS
 obtain ⟨len,hl⟩:∃len,len=ss.length:=⟨_,rfl⟩
 rw [←hl] at hlen ⊢
 have HL:=H_ hl
 clear hI hS hl
 generalize srcB ss=R at *
 go_enter Tryz.func54,Tryz.ntmps54
 go_wp2_with fail
 go_loopw [3] (fun z wr=>∃k:Nat,k≤len∧z=.int .i64 k∧Hid (NOk ns k)∧Hid (MOk ss k)∧Hid (Below w.heap.size w wr)) (fun z _=>len-(intOf z).toNat)
 case atStart=>exact ⟨0,by omega,rfl,H_ (NOk.zero ns),H_ (MOk.zero ss),H_ (Below.refl _ _)⟩
 case round =>
  obtain ⟨k,hk,rfl,HK,HKM,HB⟩:=hrel
  by_cases hlt:k<len
  ·have hlt2:(k:Int)<(len:Int):=by omega
   obtain ⟨b,off,rfl,hbl,c0,c1⟩:=crs_at (HI.out.below HB.out) k (by have:=HL.out;omega)
   have hsz:=HS.out k (by have:=HL.out;omega)
   have HM9:=H_ (fun h1=>HKM.out.more (k:=k) h1)
   have HF9:=H_ (HT1.out k (by have:=HL.out;omega))
   rw [HN.out k (by have:=HL.out;omega)] at hsz c0
   obtain ⟨ym,hym⟩:∃z,z=(ss.getD k Cr.zero).m:=⟨_,rfl⟩
   rw [←hym] at c1 HM9 HF9
   clear hym
   have H2:=H_ (fun w=>EvtR.sminute_any ym w)
   have HM:=H_ (fun h1 h2=>HK.out.more (k:=k) h1 h2)
   have HF:=H_ (HT0.out k (by have:=HL.out;omega))
   rcases (show k=0∨∃j,k=j+1 from by rcases k with _|j;exact .inl rfl;exact .inr ⟨j,rfl⟩) with rfl|⟨j,hkj⟩
   ·have HA:Hid (ahd ns 0=⟨#[]⟩):=rfl
    simp only [Nat.zero_mul,Nat.add_zero] at c0 c1
    generalize ahd ns 0=a at *
    generalize ns.getD 0 tz=xi at *
    have H1:=H_ (fun w=>NameR.spec_any xi w hsz)
    have HP:=H_ (name_posN (s:=xi))
    generalize nameB xi=b1 at *
    cases b1
    ·have HR:Hid (R=false):=H_ (HF.out (fun h=>absurd h.2 (by simp)))
     clear HM HF HP
     go_wp2_with fail
     go_quiet ((first|(go_at_call 104;exact Calls.quiet_of_same (H1.out _))|(go_at_call 21;exact Calls.quiet_of_same (H2.out _))))
     go_wp2_with fail
     go_ret
     exact ⟨ret_bool HR.out.symm,bdN HB.out _⟩
    ·have HM2:=H_ (HM.out (by rw [HA.out];exact lt_empty (HP.out rfl)) rfl)
     clear HM HF HP
     generalize hq9:minB ym=b9 at *
     unfold minB at hq9
     rw [hq9] at H2
     clear hq9
     cases b9
     ·have HR:Hid (R=false):=H_ (HF9.out rfl)
      go_wp2_with fail
      go_quiet ((first|(go_at_call 104;exact Calls.quiet_of_same (H1.out _))|(go_at_call 21;exact Calls.quiet_of_same (H2.out _))))
      go_wp2_with fail
      go_ret
      exact ⟨ret_bool HR.out.symm,bdN HB.out _⟩
     ·have HM3:=H_ (HM9.out rfl)
      go_wp2_with fail
      go_quiet ((first|(go_at_call 104;exact Calls.quiet_of_same (H1.out _))|(go_at_call 21;exact Calls.quiet_of_same (H2.out _))))
      go_wp2_with fail
      go_roundw
      case rel=>exact ⟨0+1,by omega,by go_num,HM2,HM3,H_ (bdN HB.out _)⟩
      case measure=>simp [intOf];omega
   ·obtain ⟨b',off',hbo,hbl',d0,d1⟩:=crs_at (HI.out.below HB.out) j (by have:=HL.out;omega)
    obtain ⟨rfl,rfl⟩:b=b'∧off=off':=by simpa using hbo
    have HA:Hid (ahd ns k=ns.getD j tz):=H_ (by rw [hkj];rfl)
    rw [HN.out j (by have:=HL.out;omega)] at d0
    clear d1 hbl' hbo
    generalize ns.getD j tz=yi at *
    generalize ahd ns k=a at *
    generalize ns.getD k tz=xi at *
    have H1:=H_ (fun w=>NameR.spec_any xi w hsz)
    generalize nameB xi=b1 at *
    have hj1:IntKind.i64.wrap ((k:Int)-1)=(j:Int):=by rw [IntKind.wrap_i64];omega
    have hj2:0<k:=by omega
    have hj3:(j:Int)<(len:Int):=by omega
    clear hkj
    cases b1
    ·have HR:Hid (R=false):=H_ (HF.out (fun h=>absurd h.2 (by simp)))
     clear HM HF
     go_wp2_with fail
     go_quiet ((first|(go_at_call 104;exact Calls.quiet_of_same (H1.out _))|(go_at_call 21;exact Calls.quiet_of_same (H2.out _))))
     go_wp2_with fail
     go_ret
     exact ⟨ret_bool HR.out.symm,bdN HB.out _⟩
    rcases le_casesN xi yi with ⟨q1,q2⟩|⟨q1,q3,q4,q2⟩|⟨q1,q3,q4,q2⟩
    ·have HR:Hid (R=false):=H_ (HF.out (fun h=>by rw [HA.out,q2] at h;exact absurd h.1 (by simp)))
     have q5:Op.bytesLess yi.toList xi.toList=false:=lt_asymm q1
     clear HM HF q2
     go_wp2_with fail
     go_quiet ((first|(go_at_call 104;exact Calls.quiet_of_same (H1.out _))|(go_at_call 21;exact Calls.quiet_of_same (H2.out _))))
     go_wp2_with fail
     go_ret
     exact ⟨ret_bool HR.out.symm,bdN HB.out _⟩
    ·have HR:Hid (R=false):=H_ (HF.out (fun h=>by rw [HA.out,q2] at h;exact absurd h.1 (by simp)))
     obtain rfl:=toList_inj q3
     have q5:Op.bytesLess xi.toList xi.toList=false:=q1
     clear HM HF q2 q3 q4
     go_wp2_with fail
     go_quiet ((first|(go_at_call 104;exact Calls.quiet_of_same (H1.out _))|(go_at_call 21;exact Calls.quiet_of_same (H2.out _))))
     go_wp2_with fail
     go_ret
     exact ⟨ret_bool HR.out.symm,bdN HB.out _⟩
    ·have q5:Op.bytesLess yi.toList xi.toList=true:=q2
     have HM2:=H_ (HM.out (by rw [HA.out];exact q2) rfl)
     clear HM HF q2
     generalize hq9:minB ym=b9 at *
     unfold minB at hq9
     rw [hq9] at H2
     clear hq9
     cases b9
     ·have HR:Hid (R=false):=H_ (HF9.out rfl)
      go_wp2_with fail
      go_quiet ((first|(go_at_call 104;exact Calls.quiet_of_same (H1.out _))|(go_at_call 21;exact Calls.quiet_of_same (H2.out _))))
      go_wp2_with fail
      go_ret
      exact ⟨ret_bool HR.out.symm,bdN HB.out _⟩
     ·have HM3:=H_ (HM9.out rfl)
      go_wp2_with fail
      go_quiet ((first|(go_at_call 104;exact Calls.quiet_of_same (H1.out _))|(go_at_call 21;exact Calls.quiet_of_same (H2.out _))))
      go_wp2_with fail
      go_roundw
      case rel=>exact ⟨k+1,by omega,by go_num,HM2,HM3,H_ (bdN HB.out _)⟩
      case measure=>simp [intOf];omega
  ·have hlt2:¬(k:Int)<(len:Int):=by omega
   obtain rfl:k=len:=by omega
   have HR:=H_ (HTE.out (by rw [←HL.out];exact HK.out) (by rw [←HL.out];exact HKM.out))
   rw [←HL.out] at HR
   rcases (show k=0∨(1≤k∧k≤3)∨3<k by omega) with rfl|⟨h1,h3⟩|h3
   ·go_wp2_with (go_at_call 63;go_in)
    go_ret
    exact ⟨ret_bool (by rw [HR.out];rfl),HB.out⟩
   ·have h1':(1:Int)≤(k:Int):=by omega
    have h3':(k:Int)≤3:=by omega
    have HR2:Hid (R=true):=H_ (by rw [HR.out];exact decide_eq_true ⟨h1,h3⟩)
    clear HR h1 h3
    go_wp2_with (go_at_call 63;go_in)
    go_ret
    exact ⟨ret_bool HR2.out.symm,HB.out⟩
   ·have h1':(1:Int)≤(k:Int):=by omega
    have h3':¬(k:Int)≤3:=by omega
    have HR2:Hid (R=false):=H_ (by rw [HR.out];exact decide_eq_false (by omega))
    clear HR h3
    go_wp2_with (go_at_call 63;go_in)
    go_ret
    exact ⟨ret_bool HR2.out.symm,HB.out⟩
theorem infoSt:(Tryz.prog.info? 9).map (fun i=>(i.zero,i.size,i.bytes))=some (some (.string ⟨#[]⟩),1,16):=by kernel_rfl
theorem st_one (x:ByteArray):∀u∈[Value.string x],u.oneCell'=true:=by
 intro u hu
 simp at hu
 subst hu
 rfl
theorem nmS_take (ss:List Cr) (k:Nat) (hk:k<ss.length):(nmS ss).take (k+1)=(nmS ss).take k ++ [(ss.getD k Cr.zero).a]:=by
 have h:=RowG.take_more (z:=tz) (nmS ss) k (by rw [nmS_len];exact hk)
 rw [nmS_get ss k hk] at h
 exact h
set_option maxRecDepth 100000 in
set_option maxHeartbeats 4000000 in
theorem impl_srcs (ao:Option Addr) (cap:Nat) (ss:List Cr) (w:World) (hlen:ss.length≤1048576) (hS:∀i,i<ss.length→(ss.getD i Cr.zero).a.size≤1048576) (hI:Crs ao ss.length ss w) :
 Calls Tryz.prog 71 #[.slice ao ss.length cap] w fun e w'=>e=.returned (.bool (srcB ss))∧Below w.heap.size w w':=by
 obtain ⟨gi,gj,gz0,gz1,gz2⟩:=info_parts infoSt
 have HT1:Hid (∀k,k<ss.length→minB (ss.getD k Cr.zero).m=false→srcB ss=false):=H_ (fun k hk h=>srcB_mark hk h)
 have HTE:Hid (MOk ss ss.length→srcB ss=nsB (nmS ss)):=H_ (fun h=>srcB_all h)
 have HTK:=H_ (nmS_take ss)
 have HSZ:Hid (∀e∈nmS ss,e.size≤1048576):=H_ (fun e he=>by
  obtain ⟨x,hx,rfl⟩:=List.mem_map.1 he
  obtain ⟨i,hi,rfl⟩:=List.getElem_of_mem hx
  have:=hS i hi
  simpa [List.getD,hi] using this)
 have HI:=H_ hI
 obtain ⟨len,hl⟩:∃len,len=ss.length:=⟨_,rfl⟩
 rw [←hl] at hlen ⊢
 have HL:=H_ hl
 obtain ⟨ns,hns⟩:∃z,z=nmS ss:=⟨_,rfl⟩
 have HNL:Hid (ns.length=len):=H_ (by rw [hns,nmS_len,hl])
 rw [←hns] at HTE HTK HSZ
 clear hI hl hS hns
 generalize srcB ss=R at *
 go_enter Tryz.func71,Tryz.ntmps71
 go_wp2_with fail
 go_loopw [3,8] (fun x z wr=>∃(k:Nat) (sa:Option Addr) (sc:Nat),k≤len∧x=.slice sa k sc∧z=.int .i64 k∧Hid (MOk ss k)∧Hid (wr.ownsRow w.heap.size 9 1 (.slice sa k sc) k (cellsAll tcells (ns.take k)))∧Hid (Below w.heap.size w wr)) (fun _ z _=>len-(intOf z).toNat)
 case atStart=>exact ⟨0,none,0,by omega,rfl,rfl,H_ (MOk.zero ss),H_ (World.ownsRow_nil _ _ _ _),H_ (Below.refl _ _)⟩
 case round =>
  obtain ⟨k,sa,sc,hk,rfl,rfl,HK,HO,HB⟩:=hrel
  by_cases hlt:k<len
  ·have hlt2:(k:Int)<(len:Int):=by omega
   obtain ⟨b,off,rfl,hbl,c0,c1⟩:=crs_at (HI.out.below HB.out) k (by have:=HL.out;omega)
   have HM9:=H_ (fun h1=>HK.out.more (k:=k) h1)
   have HF9:=H_ (HT1.out k (by have:=HL.out;omega))
   have HTK9:=H_ (HTK.out k (by have:=HL.out;omega))
   generalize ss.getD k Cr.zero=X at *
   obtain ⟨xn,xm⟩:=X
   dsimp only at c0 c1 HM9 HF9 HTK9
   have H2:=H_ (fun w=>EvtR.minute_any xm w)
   have hal:Below wr.heap.size wr (wr.alloc (.cells #[.string xn,.int .i64 xm] 63)):=(Below.refl _ _).alloc (Nat.le_refl _) _
   have hal2:Below wr.heap.size wr ((wr.alloc (.cells #[.string xn,.int .i64 xm] 63)).alloc (.cells #[.string xn] 9)):=hal.alloc (by simp) _
   have HB1:=H_ (HB.out.trans (hal.mono HB.out.size))
   have HB2:=H_ (HB.out.trans (hal2.mono HB.out.size))
   have HO2:=H_ (RowG.own_below HO.out hal2)
   have HNW:Hid (∀j u,([.string xn]:List Value)[j]? = some u→((wr.alloc (.cells #[.string xn,.int .i64 xm] 63)).alloc (.cells #[.string xn] 9)).cell? ((⟨wr.heap.size+1,0,none⟩:Addr).add j)=some u):=H_ (by
    have h:=new_cells (wr.alloc (.cells #[.string xn,.int .i64 xm] 63)) [.string xn] 9
    rwa [show (wr.alloc (.cells #[.string xn,.int .i64 xm] 63)).heap.size=wr.heap.size+1 by simp] at h)
   have hbase:w.heap.size≤((wr.alloc (.cells #[.string xn,.int .i64 xm] 63)).alloc (.cells #[.string xn] 9)).heap.size:=HB2.out.size
   have HBS:=H_ hbase
   have sz1:k+1≤maxLen:=by unfold maxLen;omega
   have sz2:(k+1)*16≤140737488355328:=by omega
   clear hal hal2 hbase HB HO
   generalize hq9:minB xm=b9 at *
   unfold minB at hq9
   rw [hq9] at H2
   clear hq9
   cases b9
   ·have HR:Hid (R=false):=H_ (HF9.out rfl)
    go_wp2_with (go_at_call 122;refine (H2.out _).mono ?_;rintro e w' ⟨rfl,rfl⟩)
    go_ret
    exact ⟨ret_bool HR.out.symm,HB1.out⟩
   ·have HM3:=H_ (HM9.out rfl)
    go_wp2_with (first|(go_at_call 122;refine (H2.out _).mono ?_;rintro e w' ⟨rfl,rfl⟩)|(at_builtin;refine wpList_append_own _ rfl _ _ 92 rfl w.heap.size 9 gi (.string ⟨#[]⟩) 1 16 Tryz.underlying92 gj gz0 gz1 gz2 rfl (by decide) _ _ _ rfl HO2.out ⟨wr.heap.size+1,0,none⟩ 1 1 [.string xn] rfl rfl HNW.out (st_one xn) sz1 sz2 HBS.out ?_))
    intro v9 w9 hown hgrow hne
    have HB9:=H_ (HB2.out.grown hgrow HB2.out.size (fun _ e=>(HO2.out.lt _ e).1))
    have hS9:w9.ownsRow w.heap.size 9 1 v9 (k+1) (cellsAll tcells (ns.take (k+1))):=by
     rw [HTK9.out,cellsAll_snoc]
     exact hown
    obtain ⟨sb,sq,rfl⟩:=own_form hown
    have HS9:=H_ hS9
    clear hown hgrow hne hS9 HB1 HB2 HO2 HNW HBS
    go_wp2_with fail
    go_roundw
    case rel=>exact ⟨k+1,some ⟨sb,0,none⟩,sq,by omega,rfl,by go_num,HM3,HS9,HB9⟩
    case measure=>simp [intOf];omega
  ·have hlt2:¬(k:Int)<(len:Int):=by omega
   obtain rfl:k=len:=by omega
   have HR:Hid (R=nsB ns):=H_ (HTE.out (by rw [←HL.out];exact HK.out))
   have HTA:Hid (ns.take k=ns):=H_ (by rw [←HNL.out];exact List.take_length)
   rw [HTA.out] at HO
   obtain ⟨ao',cap',e1,hm⟩:=RowG.own_made (cells:=tcells) (z:=tz) (fun _=>rfl) (xs:=ns) (by have:=HO.out;rwa [←HNL.out] at this)
   simp only [Value.slice.injEq] at e1
   obtain ⟨rfl,_,rfl⟩:=e1
   have H5:=H_ (impl_names sa sc ns wr (by have:=HNL.out;omega) HSZ.out hm.rws)
   rw [HNL.out,←HR.out] at H5
   clear hm HO
   go_wp2_with (go_at_call 123;refine H5.out.mono ?_;rintro e w' ⟨rfl,hb⟩)
   go_ret
   exact ⟨rfl,HB.out.trans (hb.mono HB.out.size)⟩
end EngR
end Go.Proofs.YtnceeaccbcfopaaGreatDoor
