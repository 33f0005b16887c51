/-
  The law's own copy of a list of meters, and two lists held against each other. The condition: at most 1048576 meters, each of at most 1048576 tiers.
-/
import Derived.Test.YtnceeaccbcfopaaGreatDoorT54
namespace Go.Proofs.YtnceeaccbcfopaaGreatDoor
open Go.ChangeShapes Go.WideShapes Go.ChangeAt Go.RowKit
set_option linter.unusedVariables false
namespace CatR
open EvtR (Pt cell_put cell_far)
theorem infoM:(Tryz.prog.info? 150).map (fun i=>(i.zero,i.size,i.bytes))=some (some (.agg #[.string ⟨#[]⟩,.int .i64 0,.bool false,.int .i64 0,.int .i64 0,.slice none 0 0]),6,72):=by kernel_rfl
set_option maxRecDepth 100000 in
set_option maxHeartbeats 4000000 in
theorem toMes_any (ao:Option Addr) (len cap:Nat) (ms:List Me) (w:World) (hlen:len≤1048576) (hS:∀i,i<len→(ms.getD i Me.zero).Small) (hI:Mes ao len ms w) :
 Calls Tryz.prog 64 #[.slice ao len cap] w fun e w'=>e=.returned (.slice (some ⟨w.heap.size,0,none⟩) len len)∧(∃bs,NewMes w.heap.size w.heap.size bs len len ms w')∧Below w.heap.size w w':=by
 obtain ⟨i0,hi,hz0,hz1,hz2⟩:=info_parts infoM
 have HI:=H_ hI
 have HS:=H_ hS
 clear hI hS
 go_enter Tryz.func64,Tryz.ntmps64
 go_wp2_with (at_make;refine wpList_make_full _ rfl _ _ 33 rfl w.heap.size 150 i0 (.agg #[.string ⟨#[]⟩,.int .i64 0,.bool false,.int .i64 0,.int .i64 0,.slice none 0 0]) 6 Tryz.underlying33 hi hz0 hz1 .i64 .i64 _ _ len rfl rfl rfl rfl ?b2 ?b3 ?b4 ?_)
 case b2=>rw [hz2];omega
 case b3=>unfold maxLen;omega
 case b4=>exact Nat.le_refl _
 intro wm hown hgrow
 have HP:=H_ (row_full hown)
 have HB:Hid (Below w.heap.size w wm):=H_ ((Below.refl _ _).grown hgrow (Nat.le_refl _) (fun k e=>by cases e))
 clear hown hgrow hi hz0 hz1 hz2
 go_wp2_with fail
 go_loopw [4] (fun z wr=>∃(k:Nat) (bs:Nat→Nat),k≤len∧z=.int .i64 k∧Hid (Below w.heap.size w wr)∧Hid (NewMes w.heap.size w.heap.size bs len k ms wr)) (fun z _=>len-(intOf z).toNat)
 case atStart=>exact ⟨0,fun _=>0,by omega,rfl,HB,H_ ⟨Nat.le_refl _,HP.out,fun i hi=>absurd hi (by omega),fun i hi=>absurd hi (by omega)⟩⟩
 case round =>
  obtain ⟨k,bs,hk,rfl,HB,HM⟩:=hrel
  by_cases hlt:k<len
  ·have hlt2:(k:Int)<(len:Int):=by omega
   obtain ⟨b,off,rfl,hbl,ta,tc,c0,c1,c2,c3,c4,c5,hT⟩:=mes_at (HI.out.below HB.out) k hlt
   have HC:=H_ (toMe_any _ (ms.getD k Me.zero) wr (HS.out k hlt).2 ⟨ta,tc,rfl,hT⟩)
   have HST:=H_ (fun w1 hbl b hb hT hP=>HM.out.step (w1:=w1) hbl hlt (b:=b) hb HM.out.blocks hT hP)
   generalize (ms.getD k Me.zero)=X at *
   obtain ⟨n,g,wh,f,l,ts⟩:=X
   unfold setM at HST
   simp only at HC HST c0 c1 c2 c3 c4 c5
   clear hT
   go_wp2_with fail
   refine HC.out.mono ?_
   rintro e w1 ⟨⟨v',rfl,b1,hb1,rfl,hT1,hP1⟩,hbb⟩
   simp only at hT1 hP1
   have HST2:=H_ (HST.out w1 hbb b1 hb1 hT1 hP1)
   have HB1:=H_ (HB.out.trans (hbb.mono HB.out.size))
   have HP1:=H_ (HM.out.pt.below hbb)
   obtain ⟨v0,d0⟩:=HP1.out.has (k*6) (by omega)
   obtain ⟨v1,d1⟩:=HP1.out.has (k*6+1) (by omega)
   obtain ⟨v2,d2⟩:=HP1.out.has (k*6+2) (by omega)
   obtain ⟨v3,d3⟩:=HP1.out.has (k*6+3) (by omega)
   obtain ⟨v4,d4⟩:=HP1.out.has (k*6+4) (by omega)
   obtain ⟨v5,d5⟩:=HP1.out.has (k*6+5) (by omega)
   have z0:=HP1.out.free (k*6) (by omega)
   have z1:=HP1.out.free (k*6+1) (by omega)
   have z2:=HP1.out.free (k*6+2) (by omega)
   have z3:=HP1.out.free (k*6+3) (by omega)
   have z4:=HP1.out.free (k*6+4) (by omega)
   have z5:=HP1.out.free (k*6+5) (by omega)
   clear hbb hT1 hP1 HST HC c0 c1 c2 c3 c4 c5
   generalize ts.length=tl at *
   go_wp2_with fail
   go_roundw
   case rel=>exact ⟨k+1,_,by omega,by go_num,H_ ((((((HB1.out.setCell (Nat.le_refl _) _).setCell (Nat.le_refl _) _).setCell (Nat.le_refl _) _).setCell (Nat.le_refl _) _).setCell (Nat.le_refl _) _).setCell (Nat.le_refl _) _),HST2⟩
   case measure=>simp [intOf];omega
  ·have hlt2:¬(k:Int)<(len:Int):=by omega
   obtain rfl:k=len:=by omega
   go_wp2_with fail
   go_ret
   exact ⟨rfl,⟨bs,HM.out⟩,HB.out⟩
set_option maxHeartbeats 4000000 in
theorem eqMes_any (ao bo:Option Addr) (len cap cap':Nat) (ms:List Me) (w:World) (hlen:len≤1048576) (hS:∀i,i<len→(ms.getD i Me.zero).Small) (hI:Mes ao len ms w) (hJ:Mes bo len ms w) :
 Calls Tryz.prog 82 #[.slice ao len cap,.slice bo len cap'] w fun e w'=>e=.returned (.bool true)∧Below w.heap.size w w':=by
 have HI:=H_ hI
 have HJ:=H_ hJ
 have HS:=H_ hS
 clear hI hJ hS
 go_enter Tryz.func82,Tryz.ntmps82
 go_wp2_with fail
 go_loopw [5] (fun z wr=>∃k:Nat,k≤len∧z=.int .i64 k∧Hid (Below w.heap.size w wr)) (fun z _=>len-(intOf z).toNat)
 case atStart=>exact ⟨0,by omega,rfl,H_ (Below.refl _ _)⟩
 case round =>
  obtain ⟨k,hk,rfl,HW⟩:=hrel
  by_cases hlt:k<len
  ·have hlt2:(k:Int)<(len:Int):=by omega
   obtain ⟨b,off,rfl,_,ta,tc,c0,c1,c2,c3,c4,c5,hT⟩:=mes_at (HI.out.below HW.out) k hlt
   obtain ⟨b',off',rfl,_,ta',tc',e0,e1,e2,e3,e4,e5,hT'⟩:=mes_at (HJ.out.below HW.out) k hlt
   have HC:=H_ (fun W (hW:Below wr.heap.size wr W)=>eqMe_any _ _ (ms.getD k Me.zero) W (HS.out k hlt).2 ⟨ta,tc,rfl,hT.below hW⟩ ⟨ta',tc',rfl,hT'.below hW⟩)
   generalize ms.getD k Me.zero=X at *
   obtain ⟨n,g,wh,f,l,ts⟩:=X
   simp only at HC c0 c1 c2 c3 c4 c5 e0 e1 e2 e3 e4 e5
   clear hT hT'
   generalize ts.length=tl at *
   go_wp2_with fail
   go_region_with (go_at_call 140;refine (HC.out _ (Below.refl _ _).drew).mono ?_;rintro e w1 ⟨rfl,hb⟩)
   all_goals (
    have HB1:=H_ (HW.out.drew.trans (hb.mono HW.out.drew.size))
    clear hb c0 c1 c2 c3 c4 c5 e0 e1 e2 e3 e4 e5
    go_wp2_with fail
    go_roundw
    case rel=>exact ⟨k+1,by omega,by go_num,HB1⟩
    case measure=>simp [intOf];omega)
  ·have hlt2:¬(k:Int)<(len:Int):=by omega
   go_wp2_with fail
   go_ret
   exact ⟨rfl,HW.out⟩
end CatR
end Go.Proofs.YtnceeaccbcfopaaGreatDoor
