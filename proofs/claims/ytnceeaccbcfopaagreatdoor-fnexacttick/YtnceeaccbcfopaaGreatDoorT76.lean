/-
  What the program calls a window's right tags. The conditions: texts of at most 1048576 bytes, lists of at most 1048576.
-/
import Derived.Test.YtnceeaccbcfopaaGreatDoorT75
namespace Go.Proofs.YtnceeaccbcfopaaGreatDoor
open Go.ChangeShapes Go.WideShapes Go.ChangeAt Go.RowKit
set_option linter.unusedVariables false
namespace WinR
open RowG LtR
open CatR (Blk Blk.new)
open DateR (Laid)
set_option maxRecDepth 100000 in
set_option maxHeartbeats 4000000 in
theorem impl_tagged (a m:ByteArray) (mo ev su mx:Int) (ts:List ByteArray) (ta:Option Addr) (tc:Nat) (hv:Value) (w:World) (hlen:ts.length≤1048576) (hS:∀t∈ts,t.size≤1048576) (hI:Tgs ta ts w) :
 Calls Tryz.prog 207 #[.agg #[.string a,.string m,.int .i64 mo,.int .i64 ev,.int .i64 su,.int .i64 mx,.slice ta ts.length tc,.func (.func 212) #[] #[],.func (.func 213) #[] #[],hv,.func (.func 214) #[] #[],.func (.func 215) #[] #[]]] w fun e w'=>e=.returned (.bool (tagsB ts))∧Below w.heap.size w w':=by
 have HI:=H_ hI
 have HS:=H_ hS
 have HLO:=H_ (tags_long (ts:=ts))
 have HRI:=H_ (tags_rise (ts:=ts))
 have HEN:=H_ (tags_end (ts:=ts))
 have HC:=H_ (fun W (hW:Below w.heap.size w W)=>tags_rises ta tc ts W hlen (hI.below hW))
 generalize tagsB ts=R at *
 generalize riseB lt tz ts=r at *
 obtain ⟨len,hl⟩:∃len,len=ts.length:=⟨_,rfl⟩
 rw [←hl] at hlen HLO HEN HC ⊢
 have HL:=H_ hl
 clear hI hl hS
 have HB0:Hid (Below w.heap.size w (w.alloc (.cells #[.string a,.string m,.int .i64 mo,.int .i64 ev,.int .i64 su,.int .i64 mx,.slice ta len tc,.func (.func 212) #[] #[],.func (.func 213) #[] #[],hv,.func (.func 214) #[] #[],.func (.func 215) #[] #[]] 196))):=H_ ((Below.refl _ _).alloc (Nat.le_refl _) _)
 have HX0:=H_ (Blk.new w [.string a,.string m,.int .i64 mo,.int .i64 ev,.int .i64 su,.int .i64 mx,.slice ta len tc,.func (.func 212) #[] #[],.func (.func 213) #[] #[],hv,.func (.func 214) #[] #[],.func (.func 215) #[] #[]] 196)
 by_cases h12:12<len
 ·have h12':(12:Int)<(len:Int):=by omega
  have HF:=H_ (HLO.out h12)
  clear HX0 HC HRI HEN HLO
  go_enter Tryz.func207,Tryz.ntmps207
  go_wp2_with fail
  go_ret
  exact ⟨ret_bool HF.out.symm,HB0.out⟩
 ·have h12':¬(12:Int)<(len:Int):=by omega
  cases r
  ·have HF:=H_ (HRI.out rfl)
   clear HX0 HRI HEN HLO
   go_enter Tryz.func207,Tryz.ntmps207
   go_wp2_with fail
   refine (HC.out _ HB0.out).mono ?_
   rintro e w1 ⟨rfl,hb1⟩
   have HB1:=H_ (HB0.out.trans (hb1.mono HB0.out.size))
   clear hb1
   go_wp2_with fail
   go_ret
   exact ⟨ret_bool HF.out.symm,HB1.out⟩
  ·have HE:=H_ (HEN.out (by omega) rfl)
   clear HRI HEN HLO
   go_enter Tryz.func207,Tryz.ntmps207
   go_wp2_with fail
   refine (HC.out _ HB0.out).mono ?_
   rintro e w1 ⟨rfl,hb1⟩
   have HB1:=H_ (HB0.out.trans (hb1.mono HB0.out.size))
   have HX1:=H_ (HX0.out.below hb1)
   clear hb1 HB0 HX0
   obtain ⟨xl,xc⟩:=HX1.out
   have x6:w1.cell? ⟨w.heap.size,6,none⟩=some (.slice ta len tc):=xc 6 (by simp)
   clear xc
   go_wp2_with fail
   go_loopw [20] (fun z wr=>∃k:Nat,k≤len∧z=.int .i64 k∧Hid ((ts.take k).all tagOk=true)∧Hid (Below w.heap.size w wr)) (fun z _=>len-(intOf z).toNat)
   case atStart=>exact ⟨0,by omega,rfl,H_ (by simp),HB1⟩
   case round =>
    obtain ⟨k,hk,rfl,HK,HB⟩:=hrel
    by_cases hlt:k<len
    ·have hlt2:(k:Int)<(len:Int):=by omega
     have hkl:k<ts.length:=by have:=HL.out;omega
     obtain ⟨b,off,rfl,hbl,c0⟩:=(HI.out.below HB.out).at k hkl
     have hsz:=HS.out _ (getD_mem (z:=tz) ts k hkl)
     have HT:=H_ (fun w=>EvtR.impl_tag (ts.getD k tz) w hsz)
     have HNO:=H_ (fun h=>all_no (z:=tz) (xs:=ts) tagOk hkl h)
     have HGO:Hid (tagOk (ts.getD k tz)=true→(ts.take (k+1)).all tagOk=true):=H_ (fun h=>by rw [all_take (z:=tz) _ k hkl,HK.out,h];rfl)
     have HTO:Hid (tagOk (ts.getD k tz)=(decide (1≤(ts.getD k tz).size)&&EvtR.tagB (ts.getD k tz))):=rfl
     generalize tagOk (ts.getD k tz)=q at *
     generalize ts.getD k tz=X at *
     by_cases hi:X.size=0
     ·have he:=EvtR.empty_of X hi
      have HF:Hid (R=false):=H_ (by rw [HE.out];exact HNO.out (by rw [HTO.out,decide_eq_false (by omega),Bool.false_and]))
      go_wp2_with fail
      go_ret
      exact ⟨ret_bool HF.out.symm,HB.out⟩
     ·obtain ⟨he,he2⟩:=EvtR.full_of X hi
      have HTO2:Hid (q=EvtR.tagB X):=H_ (by rw [HTO.out,decide_eq_true (by omega),Bool.true_and])
      generalize EvtR.tagB X=g at *
      cases g
      ·have HF:Hid (R=false):=H_ (by rw [HE.out];exact HNO.out HTO2.out)
       go_wp2_with fail
       refine (HT.out _).mono ?_
       rintro e w2 ⟨rfl,hb2⟩
       have HB2:=H_ (HB.out.trans (hb2.mono HB.out.size))
       clear hb2 c0
       go_wp2_with fail
       go_ret
       exact ⟨ret_bool HF.out.symm,HB2.out⟩
      ·have HG:=H_ (HGO.out HTO2.out)
       go_wp2_with fail
       refine (HT.out _).mono ?_
       rintro e w2 ⟨rfl,hb2⟩
       have HB2:=H_ (HB.out.trans (hb2.mono HB.out.size))
       clear hb2 c0
       go_wp2_with fail
       go_roundw
       case rel=>exact ⟨k+1,by omega,by go_num,HG,HB2⟩
       case measure=>simp [intOf];omega
    ·have hlt2:¬(k:Int)<(len:Int):=by omega
     obtain rfl:k=len:=by omega
     have HF:Hid (R=true):=H_ (by
      rw [HE.out]
      have h:=HK.out
      rwa [List.take_of_length_le (by have:=HL.out;omega)] at h)
     go_wp2_with fail
     go_ret
     exact ⟨ret_bool HF.out.symm,HB.out⟩
end WinR
end Go.Proofs.YtnceeaccbcfopaaGreatDoor
