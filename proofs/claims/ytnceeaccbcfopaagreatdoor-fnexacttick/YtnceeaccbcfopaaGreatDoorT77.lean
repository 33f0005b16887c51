/-
  What the program calls a window's right hours. The conditions: lists of at most 1048576; the sum is one that may be; the program's table stands in its variable.
-/
import Derived.Test.YtnceeaccbcfopaaGreatDoorT76
namespace Go.Proofs.YtnceeaccbcfopaaGreatDoor
open Go.ChangeShapes Go.WideShapes Go.ChangeAt Go.RowKit
set_option linter.unusedVariables false
namespace WinR
open RowG LtR
open CatR (Blk Blk.new)
open DateR (Laid)
theorem timed_few {hs:List H} {mo su:Int} (h:¬(1≤hs.length∧hs.length≤12)):timedB hs mo su=false:=by unfold timedB;rw [decide_eq_false h,Bool.false_and]
theorem timed_in {hs:List H} {mo su:Int} (h:1≤hs.length∧hs.length≤12):timedB hs mo su=hoursB hs mo su:=by unfold timedB;rw [decide_eq_true h,Bool.true_and]
set_option maxRecDepth 100000 in
set_option maxHeartbeats 8000000 in
theorem impl_timed (a m:ByteArray) (mo ev su mx:Int) (hs:List H) (tv:Value) (ha:Option Addr) (hc:Nat) (w:World) (hlen:hs.length≤1048576) (hsu:0≤su∧su≤1000000000000) (hL:Laid w) (hI:Hrs ha hs w) :
 Calls Tryz.prog 208 #[.agg #[.string a,.string m,.int .i64 mo,.int .i64 ev,.int .i64 su,.int .i64 mx,tv,.func (.func 212) #[] #[],.func (.func 213) #[] #[],.slice ha hs.length hc,.func (.func 214) #[] #[],.func (.func 215) #[] #[]]] w fun e w'=>e=.returned (.bool (timedB hs mo su))∧Below w.heap.size w w':=by
 have HI:=H_ hI
 have HLA:=H_ hL
 have HFEW:=H_ (timed_few (hs:=hs) (mo:=mo) (su:=su))
 have HIN:=H_ (timed_in (hs:=hs) (mo:=mo) (su:=su))
 have HRI:=H_ (hours_rise (hs:=hs) (mo:=mo) (su:=su))
 have HEN:=H_ (hours_end (hs:=hs) (mo:=mo) (su:=su))
 have HNO:=H_ (fun k=>hours_no (hs:=hs) (mo:=mo) (su:=su) (k:=k))
 have HC:=H_ (fun W (hW:Below w.heap.size w W)=>hours_rises ha hc hs W hlen (hI.below hW))
 have HWI:=H_ (fun w=>withinI hs.length 1 12 w)
 generalize timedB hs mo su=R at *
 generalize hoursB hs mo su=Q at *
 generalize riseB hlt H.zero hs=r at *
 obtain ⟨len,hl⟩:∃len,len=hs.length:=⟨_,rfl⟩
 rw [←hl] at hlen HFEW HIN HC HWI ⊢
 have HL:=H_ hl
 obtain ⟨hs0,hs1⟩:=hsu
 clear hI hl hL
 have HB0:Hid (Below w.heap.size w (w.alloc (.cells #[.string a,.string m,.int .i64 mo,.int .i64 ev,.int .i64 su,.int .i64 mx,tv,.func (.func 212) #[] #[],.func (.func 213) #[] #[],.slice ha len hc,.func (.func 214) #[] #[],.func (.func 215) #[] #[]] 196))):=H_ ((Below.refl _ _).alloc (Nat.le_refl _) _)
 have HX0:=H_ (Blk.new w [.string a,.string m,.int .i64 mo,.int .i64 ev,.int .i64 su,.int .i64 mx,tv,.func (.func 212) #[] #[],.func (.func 213) #[] #[],.slice ha len hc,.func (.func 214) #[] #[],.func (.func 215) #[] #[]] 196)
 by_cases h12:1≤len∧len≤12
 ·rw [decide_eq_true (show (1:Int)≤(len:Int)∧(len:Int)≤12 by omega)] at HWI
  have HRQ:=H_ (HIN.out h12)
  cases r
  ·have HF:Hid (R=false):=H_ (by rw [HRQ.out];exact HRI.out rfl)
   clear HX0 HRI HEN HNO HFEW HIN
   go_enter Tryz.func208,Tryz.ntmps208
   go_wp2_with fail
   refine (HWI.out _).mono ?_
   rintro e w1 ⟨rfl,rfl⟩
   go_wp2_with fail
   refine (HC.out _ HB0.out).mono ?_
   rintro e w2 ⟨rfl,hb1⟩
   have HB1:=H_ (HB0.out.trans (hb1.mono HB0.out.size))
   clear hb1
   go_wp2_with fail
   go_ret
   exact ⟨ret_bool HF.out.symm,HB1.out⟩
  ·have HE:=H_ (HEN.out rfl)
   clear HRI HEN HFEW HIN
   go_enter Tryz.func208,Tryz.ntmps208
   go_wp2_with fail
   refine (HWI.out _).mono ?_
   rintro e w1 ⟨rfl,rfl⟩
   go_wp2_with fail
   refine (HC.out _ HB0.out).mono ?_
   rintro e w2 ⟨rfl,hb1⟩
   have HB1:=H_ (HB0.out.trans (hb1.mono HB0.out.size))
   have HX1:=H_ (HX0.out.below hb1)
   clear hb1 HB0 HX0
   obtain ⟨xl,xc⟩:=HX1.out
   have x2:w2.cell? ⟨w.heap.size,2,none⟩=some (.int .i64 mo):=xc 2 (by simp)
   have x4:w2.cell? ⟨w.heap.size,4,none⟩=some (.int .i64 su):=xc 4 (by simp)
   have x9:w2.cell? ⟨w.heap.size,9,none⟩=some (.slice ha len hc):=xc 9 (by simp)
   clear xc
   go_wp2_with fail
   go_loopw [3,25] (fun y z wr=>∃k:Nat,k≤len∧y=.int .i64 (su-hsum (hs.take k))∧z=.int .i64 k∧Hid (HUp hs mo su k)∧Hid (Below w.heap.size w wr)∧Hid (w.heap.size<wr.heap.size∧wr.cell? ⟨w.heap.size,2,none⟩=some (.int .i64 mo))) (fun y z _=>len-(intOf z).toNat)
   case atStart=>exact ⟨0,by omega,by simp [hsum],rfl,H_ (HUp.zero _ _ _),HB1,H_ ⟨xl,x2⟩⟩
   case round =>
    obtain ⟨k,hk,rfl,rfl,HK,HB,HX⟩:=hrel
    clear x2 x4 x9 xl
    obtain ⟨xl,x2⟩:=HX.out
    by_cases hlt1:k<len
    ·have hlt2:(k:Int)<(len:Int):=by omega
     have hkl:k<hs.length:=by have:=HL.out;omega
     obtain ⟨b,off,rfl,hbl,c0,c1⟩:=(HI.out.below HB.out).at k hkl
     have HN:=H_ (HNO.out k hkl)
     have HM:=H_ (fun h1 h2 h3=>HK.out.more h1 h2 h3)
     have HST:=H_ (hsum_take hs k hkl)
     have HSN:=H_ (HK.out.nn (by omega))
     have HHO:=H_ (fun W hW=>impl_hour_of (hs.getD k H.zero).h mo W hW)
     have HWS:=H_ (fun w=>EvtR.within_any (hs.getD k H.zero).s 0 (su-hsum (hs.take k)) w)
     have hq0:0≤su-hsum (hs.take k)∨su-hsum (hs.take k)<0:=by omega
     have hq1:su-hsum (hs.take k)≤1000000000000:=by have:=HSN.out;omega
     generalize hourIn (hs.getD k H.zero).h mo=g at *
     generalize hs.getD k H.zero=X at *
     obtain ⟨xh,xs⟩:=X
     dsimp only at c0 c1 HHO HWS HM HN HST
     generalize hT:hsum (hs.take k)=T at *
     have HLA2:=H_ ((HLA.out.below HB.out).below ((Below.refl wr.heap.size wr).alloc (Nat.le_refl _) (Obj.cells #[.int .i64 xh,.int .i64 xs] 207)))
     have HBX:=H_ (HB.out.alloc HB.out.size (Obj.cells #[.int .i64 xh,.int .i64 xs] 207))
     have HZ:=H_ (Blk.new wr [.int .i64 xh,.int .i64 xs] 207)
     cases g
     ·have HF:Hid (R=false):=H_ (by rw [HRQ.out];exact HN.out (fun h=>by cases h.1))
      go_wp2_with fail
      refine (HHO.out _ HLA2.out).mono ?_
      rintro e w3 ⟨rfl,hb3⟩
      have HB3:=H_ (HBX.out.trans (hb3.mono HBX.out.size))
      clear hb3
      go_wp2_with fail
      go_ret
      exact ⟨ret_bool HF.out.symm,HB3.out⟩
     ·go_wp2_with fail
      refine (HHO.out _ HLA2.out).mono ?_
      rintro e w3 ⟨rfl,hb3⟩
      have HB3:=H_ (HBX.out.trans (hb3.mono HBX.out.size))
      have HZ3:=H_ (HZ.out.below hb3)
      have HX3:Hid (w.heap.size<w3.heap.size∧w3.cell? ⟨w.heap.size,2,none⟩=some (.int .i64 mo)):=H_ (by
       have hc:=hb3.cell (p:=⟨w.heap.size,2,none⟩) (by simp;omega)
       have:=hb3.size
       simp at this
       exact ⟨by omega,(hc.trans (((Below.refl wr.heap.size wr).alloc (Nat.le_refl _) _).cell (p:=⟨w.heap.size,2,none⟩) xl)).trans x2⟩)
      clear hb3 HZ HBX
      obtain ⟨zl,zc⟩:=HZ3.out
      have z1:w3.cell? ⟨wr.heap.size,1,none⟩=some (.int .i64 xs):=zc 1 (by simp)
      clear zc c0 c1 x2
      by_cases hin:0≤xs∧xs≤su-T
      ·rw [decide_eq_true hin] at HWS
       have HM2:=H_ (HM.out (by first|rfl|trivial) hin.1 hin.2)
       obtain ⟨hin1,hin2⟩:=hin
       go_wp2_with fail
       refine (HWS.out _).mono ?_
       rintro e w4 ⟨rfl,rfl⟩
       go_wp2_with fail
       go_roundw
       case rel=>exact ⟨k+1,by omega,by rw [HST.out];congr 1;omega,by go_num,HM2,HB3,HX3⟩
       case measure=>simp [intOf];omega
      ·rw [decide_eq_false hin] at HWS
       have HF:Hid (R=false):=H_ (by rw [HRQ.out];exact HN.out (fun h=>hin h.2))
       go_wp2_with fail
       refine (HWS.out _).mono ?_
       rintro e w4 ⟨rfl,rfl⟩
       go_wp2_with fail
       go_ret
       exact ⟨ret_bool HF.out.symm,HB3.out⟩
    ·have hlt2:¬(k:Int)<(len:Int):=by omega
     obtain rfl:k=len:=by omega
     have HF:Hid (R=decide (su-hsum (hs.take k)=0)):=H_ (by
      rw [HRQ.out,HE.out (by rw [←HL.out];exact HK.out),List.take_of_length_le (by have:=HL.out;omega)])
     generalize hsum (hs.take k)=T at *
     by_cases hz:su-T=0
     ·rw [decide_eq_true hz] at HF
      go_wp2_with fail
      go_ret
      exact ⟨ret_bool (by rw [HF.out];try simp [hz]),HB.out⟩
     ·rw [decide_eq_false hz] at HF
      go_wp2_with fail
      go_ret
      exact ⟨ret_bool (by rw [HF.out];try simp [hz]),HB.out⟩
 ·rw [decide_eq_false (show ¬((1:Int)≤(len:Int)∧(len:Int)≤12) by omega)] at HWI
  have HF:=H_ (HFEW.out h12)
  clear HX0 HC HRI HEN HNO HFEW HIN
  go_enter Tryz.func208,Tryz.ntmps208
  go_wp2_with fail
  refine (HWI.out _).mono ?_
  rintro e w1 ⟨rfl,rfl⟩
  go_wp2_with fail
  go_ret
  exact ⟨ret_bool HF.out.symm,HB0.out⟩
end WinR
end Go.Proofs.YtnceeaccbcfopaaGreatDoor
