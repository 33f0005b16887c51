/-
  Windows that the law is given: how many letters, the law's own copies, and windows held against each other. The condition: at most 1048576 of each.
-/
import Derived.Deep.RegionWith
import Derived.Test.YtnceeaccbcfopaaGreatDoorT29
namespace Go.Proofs.YtnceeaccbcfopaaGreatDoor
open Go.ChangeShapes Go.WideShapes Go.ChangeAt Go.RowKit
set_option linter.unusedVariables false
namespace WinR
open RowG
open EvtR (Pt)
def tsz (ts:List ByteArray):Int:=(ts.map (fun t=>(t.size:Int))).sum
theorem tsz_nn (ts:List ByteArray):0≤tsz ts:=by
 unfold tsz
 induction ts with
 | nil=>simp
 | cons e es ih=>simp only [List.map_cons,List.sum_cons];omega
theorem tsz_take (ts:List ByteArray) (k:Nat) (h:k<ts.length):tsz (ts.take (k+1))=tsz (ts.take k)+((ts.getD k tz).size:Int):=by
 unfold tsz
 rw [take_more (z:=tz) ts k h,List.map_append,List.sum_append]
 simp
theorem tsz_le (ts:List ByteArray) (k:Nat):tsz (ts.take k)≤tsz ts:=by
 have:=tsz_nn (ts.drop k)
 have e:tsz ts=tsz (ts.take k)+tsz (ts.drop k):=by
  unfold tsz
  rw [←List.sum_append,←List.map_append,List.take_append_drop]
 omega
theorem tsz_mem {ts:List ByteArray} {t:ByteArray} (h:t∈ts):(t.size:Int)≤tsz ts:=by
 unfold tsz
 induction ts with
 | nil=>simp at h
 | cons e es ih =>
  have:=tsz_nn es
  unfold tsz at this
  simp only [List.map_cons,List.sum_cons]
  rcases List.mem_cons.1 h with rfl|h
  ·omega
  ·have:=ih h;omega
def tszR (ts:List ByteArray) (left:Int):Int:=if (ts.length:Int)+tsz ts≤left then left-(ts.length:Int)-tsz ts else -1
set_option maxHeartbeats 4000000 in
theorem szT_any (ao:Option Addr) (cap:Nat) (ts:List ByteArray) (left:Int) (w:World) (hm:ts.length≤maxLen) (h0:0≤left) (h1:left≤1048576) (hI:Tgs ao ts w) (hw:∀t∈ts,t.size≤maxLen) :
 Calls Tryz.prog 100 #[.slice ao ts.length cap,.int .i64 left] w fun e w'=>e=.returned (.int .i64 (tszR ts left))∧Below w.heap.size w w':=by
 obtain ⟨len,hlen⟩:∃len,len=ts.length:=⟨_,rfl⟩
 rw [←hlen] at hm ⊢
 have HZ:=H_ hlen
 have HI:=H_ hI
 have HW:=H_ hw
 have HR:Hid (tszR ts left=if (ts.length:Int)+tsz ts≤left then left-(ts.length:Int)-tsz ts else -1):=rfl
 generalize tszR ts left=R at *
 unfold maxLen at hm
 clear hI hw hlen
 by_cases hbig:left<(len:Int)
 ·have hl2:left-(len:Int)<0:=by omega
  have HN:Hid (R=-1):=H_ (by rw [HR.out,if_neg];have:=tsz_nn ts;have:=HZ.out;omega)
  go_enter Tryz.func100,Tryz.ntmps100
  go_wp2_with fail
  go_ret
  exact ⟨ret_int HN.out.symm,Below.refl _ _⟩
 have hl:(len:Int)≤1048576:=by omega
 have hl2:¬left-(len:Int)<0:=by omega
 go_enter Tryz.func100,Tryz.ntmps100
 go_wp2_with fail
 go_loopw [5,1] (fun x y w'=>∃(j:Nat) (L:Int),j≤len∧x=.int .i64 j∧y=.int .i64 L∧0≤L∧L≤1048576∧Hid (L=left-(len:Int)-tsz (ts.take j))∧Hid (Below w.heap.size w w')) (fun x y w'=>len-(intOf x).toNat)
 case atStart=>exact ⟨0,left-(len:Int),Nat.zero_le _,rfl,rfl,by omega,by omega,H_ (by simp [tsz]),H_ (Below.refl _ _)⟩
 case round =>
  obtain ⟨j,L,hj,rfl,rfl,l0,l1,HL,HB⟩:=hrel
  by_cases hlt:j<len
  ·obtain ⟨b,off,rfl,hbl,c0⟩:=(HI.out.below HB.out).at j (by have:=HZ.out;omega)
   have HS:=H_ (tsz_take ts j (by have:=HZ.out;omega))
   have q1:=HW.out _ (getD_mem (z:=tz) ts j (by have:=HZ.out;omega))
   unfold maxLen at q1
   generalize ts.getD j tz=X at *
   have hlt2:(j:Int)<(len:Int):=by omega
   by_cases hs:(X.size:Int)≤L
   ·have HN:Hid (L-(X.size:Int)=left-(len:Int)-tsz (ts.take (j+1))):=H_ (by rw [HS.out,HL.out];omega)
    have r2:¬L-(X.size:Int)<0:=by omega
    go_wp2_with fail
    go_roundw
    case rel=>exact ⟨j+1,_,by omega,by go_num,rfl,by omega,by omega,HN,HB⟩
    case measure=>simp [intOf];omega
   ·have HN:Hid (R=-1):=H_ (by rw [HR.out,if_neg];have:=tsz_le ts (j+1);have:=HS.out;have:=HL.out;have:=HZ.out;omega)
    have r2:L-(X.size:Int)<0:=by omega
    go_wp2_with fail
    go_ret
    exact ⟨ret_int HN.out.symm,HB.out⟩
  ·obtain rfl:j=len:=by omega
   have hlt2:¬(j:Int)<(j:Int):=by omega
   have HN:Hid (R=L):=H_ (by
    have e:=HL.out
    rw [List.take_of_length_le (by have:=HZ.out;omega)] at e
    rw [HR.out,if_pos (by have:=HZ.out;omega)];have:=HZ.out;omega)
   go_wp2_with fail
   go_ret
   exact ⟨ret_int HN.out.symm,HB.out⟩
theorem szH_any (ao:Option Addr) (cap len:Nat) (left:Int) (w:World) (hm:len≤maxLen) (h0:0≤left) (h1:left≤1048576) :
 Calls Tryz.prog 101 #[.slice ao len cap,.int .i64 left] w fun e w'=>e=.returned (.int .i64 (if (len:Int)≤left then left-(len:Int) else -1))∧w'=w:=by
 unfold maxLen at hm
 by_cases h:(len:Int)≤left
 ·rw [if_pos h]
  have h2:¬left-(len:Int)<0:=by omega
  go_enter Tryz.func101,Tryz.ntmps101
  go_wp2_with fail
  go_ret
  exact ⟨rfl,rfl⟩
 ·rw [if_neg h]
  have h2:left-(len:Int)<0:=by omega
  go_enter Tryz.func101,Tryz.ntmps101
  go_wp2_with fail
  go_ret
  exact ⟨rfl,rfl⟩
def wszR (x:Wd) (left:Int):Int:=if (x.a.size:Int)+x.m.size+x.ts.length+tsz x.ts+x.hs.length≤left then left-((x.a.size:Int)+x.m.size+x.ts.length+tsz x.ts+x.hs.length) else -1
def Wd.Small (x:Wd):Prop:=x.a.size≤1048576∧x.m.size≤1048576∧x.ts.length≤1048576∧(∀t∈x.ts,t.size≤1048576)∧x.hs.length≤1048576
theorem wsz_small {x:Wd} {left:Int} (h1:left≤1048576) (h:¬wszR x left<0):x.Small∧0≤wszR x left∧wszR x left≤1048576:=by
 unfold wszR at *
 have:=tsz_nn x.ts
 split at h
 ·rename_i q
  rw [if_pos q]
  refine ⟨⟨by omega,by omega,by omega,fun t ht=>?_,by omega⟩,by omega,by omega⟩
  have:=tsz_mem ht
  omega
 ·omega
def Wd.In (x:Wd):Prop:=x.a.size≤maxLen∧x.m.size≤maxLen∧x.ts.length≤maxLen∧(∀t∈x.ts,t.size≤maxLen)∧x.hs.length≤maxLen
set_option maxHeartbeats 4000000 in
theorem szW_in (a m:ByteArray) (mo ev su mx:Int) (ta:Option Addr) (tl tc:Nat) (ha:Option Addr) (hl hc:Nat) (left T r1 r2 r3 r4:Int) (w:World) (la:a.size≤maxLen) (lm:m.size≤maxLen) (h0:0≤left) (h1:left≤1048576)
 (e1:r1=left-a.size) (e2:r2=r1-m.size)
 (hT:0≤r1→0≤r2→∀W,Below w.heap.size w W→Calls Tryz.prog 100 #[.slice ta tl tc,.int .i64 r2] W fun e w'=>e=.returned (.int .i64 r3)∧Below W.heap.size W w')
 (hH:0≤r3→∀W,Calls Tryz.prog 101 #[.slice ha hl hc,.int .i64 r3] W fun e w'=>e=.returned (.int .i64 r4)∧w'=W)
 (hR:T=if r1<0 then -1 else if r2<0 then -1 else if r3<0 then -1 else if r4<0 then -1 else r4) :
 Calls Tryz.prog 49 #[.agg #[.string a,.string m,.int .i64 mo,.int .i64 ev,.int .i64 su,.int .i64 mx,.slice ta tl tc,.slice ha hl hc],.int .i64 left] w fun e w'=>e=.returned (.int .i64 T)∧Below w.heap.size w w':=by
 unfold maxLen at *
 have HT:=H_ hT
 have HH:=H_ hH
 have HB0:Hid (Below w.heap.size w (w.alloc (.cells #[.string a,.string m,.int .i64 mo,.int .i64 ev,.int .i64 su,.int .i64 mx,.slice ta tl tc,.slice ha hl hc] 95))):=H_ ((Below.refl _ _).alloc (Nat.le_refl _) _)
 clear hT hH
 by_cases q1:r1<0
 ·rw [if_pos q1] at hR
  have q1':left-(a.size:Int)<0:=by omega
  clear e1 e2
  go_enter Tryz.func49,Tryz.ntmps49
  go_wp2_with fail
  go_ret
  exact ⟨ret_int (by first|rfl|exact hR.symm|omega),HB0.out⟩
 ·rw [if_neg q1] at hR
  have q1':¬left-(a.size:Int)<0:=by omega
  by_cases q2:r2<0
  ·rw [if_pos q2] at hR
   have q2':left-(a.size:Int)-(m.size:Int)<0:=by omega
   clear e1 e2
   go_enter Tryz.func49,Tryz.ntmps49
   go_wp2_with fail
   go_ret
   exact ⟨ret_int (by first|rfl|exact hR.symm|omega),HB0.out⟩
  ·rw [if_neg q2] at hR
   have q2':¬left-(a.size:Int)-(m.size:Int)<0:=by omega
   have HT2:=H_ (HT.out (by omega) (by omega))
   have e3:left-(a.size:Int)-(m.size:Int)=r2:=by omega
   have HX0:=H_ (CatR.Blk.new w [.string a,.string m,.int .i64 mo,.int .i64 ev,.int .i64 su,.int .i64 mx,.slice ta tl tc,.slice ha hl hc] 95)
   clear e1 e2 HT
   go_enter Tryz.func49,Tryz.ntmps49
   go_wp2_with fail
   first|rw [e3]|skip
   refine (HT2.out _ HB0.out).mono ?_
   rintro e w2 ⟨rfl,hb2⟩
   have HB2:=H_ (HB0.out.trans (hb2.mono HB0.out.size))
   have HX2:=H_ (HX0.out.below hb2)
   obtain ⟨xl,xc⟩:=HX2.out
   have y7:w2.cell? ⟨w.heap.size,7,none⟩=some (.slice ha hl hc):=xc 7 (by simp)
   clear xc hb2
   by_cases q3:r3<0
   ·rw [if_pos q3] at hR
    go_wp2_with fail
    go_ret
    exact ⟨ret_int (by first|rfl|exact hR.symm|omega),HB2.out⟩
   ·rw [if_neg q3] at hR
    have HH2:=H_ (HH.out (by omega))
    go_wp2_with fail
    refine (HH2.out _).mono ?_
    rintro e w3 ⟨rfl,rfl⟩
    by_cases q4:r4<0
    ·rw [if_pos q4] at hR
     go_wp2_with fail
     go_ret
     exact ⟨ret_int (by first|rfl|exact hR.symm|omega),HB2.out⟩
    ·rw [if_neg q4] at hR
     go_wp2_with fail
     go_ret
     exact ⟨ret_int (by first|rfl|exact hR.symm|omega),HB2.out⟩
theorem szW_any (x:Wd) (ta:Option Addr) (tc:Nat) (ha:Option Addr) (hc:Nat) (left:Int) (w:World) (h0:0≤left) (h1:left≤1048576) (hI:x.In) (hT:Tgs ta x.ts w) :
 Calls Tryz.prog 49 #[.agg (wcells x ta tc ha hc),.int .i64 left] w fun e w'=>e=.returned (.int .i64 (wszR x left))∧Below w.heap.size w w':=by
 obtain ⟨i1,i2,i3,i4,i5⟩:=hI
 have n0:=tsz_nn x.ts
 refine szW_in x.a x.m x.mo x.ev x.su x.mx ta x.ts.length tc ha x.hs.length hc left _ (left-x.a.size) (left-x.a.size-x.m.size) (tszR x.ts (left-x.a.size-x.m.size)) (if (x.hs.length:Int)≤tszR x.ts (left-x.a.size-x.m.size) then tszR x.ts (left-x.a.size-x.m.size)-(x.hs.length:Int) else -1) w i1 i2 h0 h1 rfl rfl (fun q1 q2 W hW=>szT_any ta tc x.ts _ W i3 (by omega) (by omega) (hT.below hW) i4) (fun q3 W=>szH_any ha hc x.hs.length _ W i5 (by omega) ?_) ?_
 ·unfold tszR;split<;>omega
 ·unfold wszR tszR
  repeat' split
  all_goals omega
end WinR
end Go.Proofs.YtnceeaccbcfopaaGreatDoor
