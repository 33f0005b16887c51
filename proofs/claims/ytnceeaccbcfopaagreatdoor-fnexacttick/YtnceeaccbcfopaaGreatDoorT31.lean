/-
  Windows that the law is given: the law's own copies, and windows held against each other. The condition: at most 1048576 of each.
-/
import Derived.Test.YtnceeaccbcfopaaGreatDoorT30
namespace Go.Proofs.YtnceeaccbcfopaaGreatDoor
open Go.ChangeShapes Go.WideShapes Go.ChangeAt Go.RowKit
set_option linter.unusedVariables false
namespace WinR
open RowG
open EvtR (Pt)
theorem infoT:(Tryz.prog.info? 9).map (fun i=>(i.zero,i.size,i.bytes))=some (some (.string ⟨#[]⟩),1,16):=by kernel_rfl
theorem infoH:(Tryz.prog.info? 207).map (fun i=>(i.zero,i.size,i.bytes))=some (some (.agg #[.int .i64 0,.int .i64 0]),2,16):=by kernel_rfl
theorem row_full {w:World} {base e g n s:Nat} {xs:List Value} (h:w.ownsRow base e s (.slice (some ⟨g,0,none⟩) n n) n xs):Pt g (n*s) w:=by
 rcases h.2 with ⟨h1,_⟩|⟨g',cap,cur,h1,_,hg,_,_,hs,_⟩
 ·simp at h1
 ·simp at h1
  obtain ⟨rfl,rfl⟩:=h1
  refine ⟨(Array.getElem?_eq_some_iff.1 hg).1,fun o ho=>⟨cur[o]'(by omega),?_⟩,fun o ho=>?_⟩
  ·have:o<cur.size:=by omega
   simp [World.cell?,hg,this]
  ·simp [World.frozen?,hg]
theorem fill_step {f:Nat→Option Value} {w wr:World} {m j:Nat} (hb:Below w.heap.size w wr) (hp:Pt w.heap.size m wr) (hw:Wr f j w.heap.size wr) (hj:j<m) (v:Value) (hv:f j=some v) :
 Below w.heap.size w (wr.setCell ⟨w.heap.size,j,none⟩ v)∧Pt w.heap.size m (wr.setCell ⟨w.heap.size,j,none⟩ v)∧Wr f (j+1) w.heap.size (wr.setCell ⟨w.heap.size,j,none⟩ v) :=
 ⟨hb.setCell (Nat.le_refl _) _,hp.set _ _,hw.more hp hj v hv⟩
theorem cellT (ts:List ByteArray) (o:Nat):cellAt 1 tcells tz ts o=some (.string (ts.getD o tz)):=by
 unfold cellAt
 rw [Nat.div_one,Nat.mod_one]
 rfl
set_option maxRecDepth 100000 in
set_option maxHeartbeats 4000000 in
theorem toTs_any (ao:Option Addr) (cap:Nat) (ts:List ByteArray) (w:World) (hlen:ts.length≤1048576) (hI:Tgs ao ts w) :
 Calls Tryz.prog 117 #[.slice ao ts.length cap] w fun e w'=>e=.returned (.slice (some ⟨w.heap.size,0,none⟩) ts.length ts.length)∧Tgs (some ⟨w.heap.size,0,none⟩) ts w'∧Pt w.heap.size ts.length w'∧Below w.heap.size w w':=by
 obtain ⟨i0,hi,hz0,hz1,hz2⟩:=info_parts infoT
 have HI:=H_ hI
 have HWS:Hid (∀wr,Wr (cellAt 1 tcells tz ts) (ts.length*1) w.heap.size wr→w.heap.size<wr.heap.size→Tgs (some ⟨w.heap.size,0,none⟩) ts wr):=H_ (fun wr h hl=>Wr.rws h hl)
 obtain ⟨len,hl⟩:∃len,len=ts.length:=⟨_,rfl⟩
 rw [←hl] at hlen HWS ⊢
 have HL:=H_ hl
 clear hI hl
 go_enter Tryz.func117,Tryz.ntmps117
 go_wp2_with (at_make;refine wpList_make_full _ rfl _ _ 92 rfl w.heap.size 9 i0 (.string ⟨#[]⟩) 1 Tryz.underlying92 hi hz0 hz1 .i64 .i64 _ _ len rfl rfl rfl rfl ?b2 ?b3 ?b4 ?_)
 case b2=>rw [hz2];omega
 case b3=>unfold maxLen;omega
 case b4=>exact Nat.le_refl _
 intro wm hown hgrow
 have HB0:Hid (Below w.heap.size w wm):=H_ ((Below.refl _ _).grown hgrow (Nat.le_refl _) (fun k e=>by cases e))
 have HP0:=H_ (row_full hown)
 clear hown hgrow hi hz0 hz1 hz2
 go_wp2_with fail
 go_loopw [4] (fun z wr=>∃k:Nat,k≤len∧z=.int .i64 k∧Hid (Below w.heap.size w wr)∧Hid (Pt w.heap.size (len*1) wr)∧Hid (Wr (cellAt 1 tcells tz ts) k w.heap.size wr)) (fun z _=>len-(intOf z).toNat)
 case atStart=>exact ⟨0,by omega,rfl,HB0,HP0,H_ (fun o ho=>absurd ho (by omega))⟩
 case round =>
  obtain ⟨k,hk,rfl,HB,HP,HW⟩:=hrel
  by_cases hlt:k<len
  ·have hlt2:(k:Int)<(len:Int):=by omega
   obtain ⟨b,off,rfl,hbl,c0⟩:=(HI.out.below HB.out).at k (by have:=HL.out;omega)
   have HS0:=H_ (fill_step HB.out HP.out HW.out (by omega) (.string (ts.getD k tz)) (cellT ts k))
   generalize ts.getD k tz=X at *
   obtain ⟨v0,d0⟩:=HP.out.has k (by omega)
   have z0:=HP.out.free k (by omega)
   go_wp2_with fail
   go_roundw
   case rel=>exact ⟨k+1,by omega,by go_num,H_ HS0.out.1,H_ HS0.out.2.1,H_ HS0.out.2.2⟩
   case measure=>simp [intOf];omega
  ·have hlt2:¬(k:Int)<(len:Int):=by omega
   obtain rfl:k=len:=by omega
   go_wp2_with fail
   go_ret
   exact ⟨rfl,HWS.out _ (by rw [Nat.mul_one];exact HW.out) HP.out.lt,(by have h:=HP.out;rwa [Nat.mul_one] at h),HB.out⟩
theorem toHour_any (h s:Int) (w:World) :
 Calls Tryz.prog 160 #[.agg #[.int .i64 h,.int .i64 s]] w fun e w'=>e=.returned (.agg #[.int .i64 h,.int .i64 s])∧Below w.heap.size w w':=by
 go_enter Tryz.func160,Tryz.ntmps160
 go_wp2_with fail
 refine bodyPost_ret (v:=.agg #[.int .i64 h,.int .i64 s]) (by simp [results,Tryz.results160,go_sem]) rfl ⟨rfl,?_⟩
 repeat' first|exact Below.refl _ _|apply Below.setCell|apply Below.alloc
 all_goals first|omega|(simp;done)|(simp;omega)
set_option maxRecDepth 100000 in
set_option maxHeartbeats 4000000 in
theorem toHs_any (ao:Option Addr) (cap:Nat) (hs:List H) (w:World) (hlen:hs.length≤1048576) (hI:Hrs ao hs w) :
 Calls Tryz.prog 118 #[.slice ao hs.length cap] w fun e w'=>e=.returned (.slice (some ⟨w.heap.size,0,none⟩) hs.length hs.length)∧Hrs (some ⟨w.heap.size,0,none⟩) hs w'∧Pt w.heap.size (hs.length*2) w'∧Below w.heap.size w w':=by
 obtain ⟨i0,hi,hz0,hz1,hz2⟩:=info_parts infoH
 have HI:=H_ hI
 have HWS:Hid (∀wr,Wr (cellAt 2 H.cells H.zero hs) (hs.length*2) w.heap.size wr→w.heap.size<wr.heap.size→Hrs (some ⟨w.heap.size,0,none⟩) hs wr):=H_ (fun wr h hl=>Wr.rws h hl)
 obtain ⟨len,hl⟩:∃len,len=hs.length:=⟨_,rfl⟩
 rw [←hl] at hlen HWS ⊢
 have HL:=H_ hl
 clear hI hl
 go_enter Tryz.func118,Tryz.ntmps118
 go_wp2_with (at_make;refine wpList_make_full _ rfl _ _ 104 rfl w.heap.size 207 i0 (.agg #[.int .i64 0,.int .i64 0]) 2 Tryz.underlying104 hi hz0 hz1 .i64 .i64 _ _ len rfl rfl rfl rfl ?b2 ?b3 ?b4 ?_)
 case b2=>rw [hz2];omega
 case b3=>unfold maxLen;omega
 case b4=>exact Nat.le_refl _
 intro wm hown hgrow
 have HB0:Hid (Below w.heap.size w wm):=H_ ((Below.refl _ _).grown hgrow (Nat.le_refl _) (fun k e=>by cases e))
 have HP0:=H_ (row_full hown)
 clear hown hgrow hi hz0 hz1 hz2
 go_wp2_with fail
 go_loopw [4] (fun z wr=>∃k:Nat,k≤len∧z=.int .i64 k∧Hid (Below w.heap.size w wr)∧Hid (Pt w.heap.size (len*2) wr)∧Hid (Wr (cellAt 2 H.cells H.zero hs) (k*2) w.heap.size wr)) (fun z _=>len-(intOf z).toNat)
 case atStart=>exact ⟨0,by omega,rfl,HB0,HP0,H_ (fun o ho=>absurd ho (by omega))⟩
 case round =>
  obtain ⟨k,hk,rfl,HB,HP,HW⟩:=hrel
  by_cases hlt:k<len
  ·have hlt2:(k:Int)<(len:Int):=by omega
   obtain ⟨b,off,rfl,hbl,c0,c1⟩:=(HI.out.below HB.out).at k (by have:=HL.out;omega)
   have HX:=H_ (cellAt_of (k:=2) (cells:=H.cells) (z:=H.zero) (xs:=hs) k)
   generalize hs.getD k H.zero=X at *
   obtain ⟨xh,xs⟩:=X
   have HC:=H_ (fun w=>toHour_any xh xs w)
   go_wp2_with fail
   refine (HC.out _).mono ?_
   rintro e w1 ⟨rfl,hb⟩
   replace HW:=H_ (HW.out.below HP.out hb)
   replace HP:=H_ (HP.out.below hb)
   replace HB:=H_ (HB.out.trans (hb.mono HB.out.size))
   have HS0:=H_ (fill_step HB.out HP.out HW.out (by omega) (.int .i64 xh) (HX.out 0 (by omega)))
   have HS1:=H_ (fill_step HS0.out.1 HS0.out.2.1 HS0.out.2.2 (by omega) (.int .i64 xs) (HX.out 1 (by omega)))
   obtain ⟨v0,d0⟩:=HP.out.has (k*2) (by omega)
   obtain ⟨v1,d1⟩:=HP.out.has (k*2+1) (by omega)
   have z0:=HP.out.free (k*2) (by omega)
   have z1:=HP.out.free (k*2+1) (by omega)
   clear hb c0 c1 HX HS0
   go_wp2_with fail
   go_roundw
   case rel=>exact ⟨k+1,by omega,by go_num,H_ HS1.out.1,H_ HS1.out.2.1,H_ (by rw [show (k+1)*2=k*2+1+1 by omega];exact HS1.out.2.2)⟩
   case measure=>simp [intOf];omega
  ·have hlt2:¬(k:Int)<(len:Int):=by omega
   obtain rfl:k=len:=by omega
   go_wp2_with fail
   go_ret
   exact ⟨rfl,HWS.out _ HW.out HP.out.lt,HP.out,HB.out⟩
set_option maxHeartbeats 4000000 in
theorem eqTs_any (ao bo:Option Addr) (cap cap':Nat) (ts:List ByteArray) (w:World) (hlen:ts.length≤1048576) (hI:Tgs ao ts w) (hJ:Tgs bo ts w) :
 Calls Tryz.prog 142 #[.slice ao ts.length cap,.slice bo ts.length cap'] w fun e w'=>e=.returned (.bool true)∧Below w.heap.size w w':=by
 have HI:=H_ hI
 have HJ:=H_ hJ
 obtain ⟨len,hl⟩:∃len,len=ts.length:=⟨_,rfl⟩
 rw [←hl] at hlen ⊢
 have HL:=H_ hl
 clear hI hJ hl
 go_enter Tryz.func142,Tryz.ntmps142
 go_wp2_with fail
 go_loopw [5] (fun z wr=>∃k:Nat,k≤len∧z=.int .i64 k∧Hid (Below w.heap.size w wr)) (fun z _=>len-(intOf z).toNat)
 case atStart=>exact ⟨0,by omega,rfl,H_ (Below.refl _ _)⟩
 case round =>
  obtain ⟨k,hk,rfl,HW⟩:=hrel
  by_cases hlt:k<len
  ·have hlt2:(k:Int)<(len:Int):=by omega
   obtain ⟨b,off,rfl,_,c0⟩:=(HI.out.below HW.out).at k (by have:=HL.out;omega)
   obtain ⟨b',off',rfl,_,e0⟩:=(HJ.out.below HW.out).at k (by have:=HL.out;omega)
   generalize ts.getD k tz=X at *
   go_wp2_with fail
   try (go_quiet (fail);go_wp2_with fail)
   go_roundw
   case rel=>exact ⟨k+1,by omega,by go_num,H_ (by first|exact HW.out|exact bdN HW.out _)⟩
   case measure=>simp [intOf];omega
  ·have hlt2:¬(k:Int)<(len:Int):=by omega
   go_wp2_with fail
   go_ret
   exact ⟨rfl,HW.out⟩
theorem eqHour_any (h s:Int) (w:World):Calls Tryz.prog 189 #[.agg #[.int .i64 h,.int .i64 s],.agg #[.int .i64 h,.int .i64 s]] w fun e w'=>e=.returned (.bool true)∧Below w.heap.size w w':=by
 go_enter Tryz.func189,Tryz.ntmps189
 go_wp2
 go_ret
 refine ⟨rfl,?_⟩
 repeat' first|exact Below.refl _ _|apply Below.setCell|apply Below.alloc
 all_goals first|omega|(simp;done)|(simp;omega)
set_option maxHeartbeats 4000000 in
theorem eqHs_any (ao bo:Option Addr) (cap cap':Nat) (hs:List H) (w:World) (hlen:hs.length≤1048576) (hI:Hrs ao hs w) (hJ:Hrs bo hs w) :
 Calls Tryz.prog 143 #[.slice ao hs.length cap,.slice bo hs.length cap'] w fun e w'=>e=.returned (.bool true)∧Below w.heap.size w w':=by
 have HI:=H_ hI
 have HJ:=H_ hJ
 obtain ⟨len,hl⟩:∃len,len=hs.length:=⟨_,rfl⟩
 rw [←hl] at hlen ⊢
 have HL:=H_ hl
 clear hI hJ hl
 go_enter Tryz.func143,Tryz.ntmps143
 go_wp2_with fail
 go_loopw [5] (fun z wr=>∃k:Nat,k≤len∧z=.int .i64 k∧Hid (Below w.heap.size w wr)) (fun z _=>len-(intOf z).toNat)
 case atStart=>exact ⟨0,by omega,rfl,H_ (Below.refl _ _)⟩
 case round =>
  obtain ⟨k,hk,rfl,HW⟩:=hrel
  by_cases hlt:k<len
  ·have hlt2:(k:Int)<(len:Int):=by omega
   obtain ⟨b,off,rfl,_,c0,c1⟩:=(HI.out.below HW.out).at k (by have:=HL.out;omega)
   obtain ⟨b',off',rfl,_,e0,e1⟩:=(HJ.out.below HW.out).at k (by have:=HL.out;omega)
   generalize hs.getD k H.zero=X at *
   obtain ⟨xh,xs⟩:=X
   have HC:=H_ (fun w=>eqHour_any xh xs w)
   go_wp2_with fail
   go_region_with (go_at_call 189;refine (HC.out _).mono ?_;rintro e w1 ⟨rfl,hb⟩)
   all_goals (
    have HB1:=H_ (HW.out.drew.trans (hb.mono HW.out.drew.size))
    clear hb c0 c1 e0 e1
    go_wp2_with fail
    go_roundw
    case rel=>exact ⟨k+1,by omega,by go_num,HB1⟩
    case measure=>simp [intOf];omega)
  ·have hlt2:¬(k:Int)<(len:Int):=by omega
   go_wp2_with fail
   go_ret
   exact ⟨rfl,HW.out⟩
end WinR
end Go.Proofs.YtnceeaccbcfopaaGreatDoor
