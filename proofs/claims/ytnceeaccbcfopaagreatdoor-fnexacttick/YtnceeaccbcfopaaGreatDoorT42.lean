/-
  The law's own helpers over a list of credits: their size, copies, two held against each other. The condition: at most 1048576 of them.
-/
import Derived.Test.YtnceeaccbcfopaaGreatDoorT41
namespace Go.Proofs.YtnceeaccbcfopaaGreatDoor
open Go.ChangeShapes Go.WideShapes Go.ChangeAt Go.RowKit
set_option linter.unusedVariables false
namespace CatR
open EvtR (Pt cell_put cell_far)
theorem infoC:(Tryz.prog.info? 151).map (fun i=>(i.zero,i.size,i.bytes))=some (some (.agg #[.string ⟨#[]⟩,.int .i64 0]),2,24):=by kernel_rfl
theorem szCr_any (a:ByteArray) (m left:Int) (ha:a.size≤maxLen) (h0:0≤left) (h1:left≤1048576) (w:World) :
 Calls Tryz.prog 99 #[.agg #[.string a,.int .i64 m],.int .i64 left] w fun e w'=>e=.returned (.int .i64 (if (a.size:Int)≤left then left-a.size else -1))∧Below w.heap.size w w':=by
 unfold maxLen at ha
 have HB:=H_ ((Below.refl w.heap.size w).alloc (Nat.le_refl _) (Obj.cells #[.string a,.int .i64 m] 144))
 by_cases h:(a.size:Int)≤left
 ·rw [if_pos h]
  have g:¬left-(a.size:Int)<0:=by omega
  go_enter Tryz.func99,Tryz.ntmps99
  go_wp2_with fail
  go_ret
  exact ⟨rfl,HB.out⟩
 ·rw [if_neg h]
  have g:left-(a.size:Int)<0:=by omega
  go_enter Tryz.func99,Tryz.ntmps99
  go_wp2_with fail
  go_ret
  exact ⟨rfl,HB.out⟩
theorem small_moreC {cs:List Cr} {k:Nat} (h:∀i,i<k→(cs.getD i Cr.zero).a.size≤1048576) (hk:(cs.getD k Cr.zero).a.size≤1048576):∀i,i<k+1→(cs.getD i Cr.zero).a.size≤1048576:=fun i hi=>by
 by_cases e:i=k
 ·subst e;exact hk
 ·exact h i (by omega)
set_option maxRecDepth 100000 in
set_option maxHeartbeats 4000000 in
theorem szCrs_any (ao:Option Addr) (len cap:Nat) (cs:List Cr) (left:Int) (w:World) (hm:len≤maxLen) (h0:0≤left) (h1:left≤1048576) (hI:Crs ao len cs w) (hin:∀i,i<len→(cs.getD i Cr.zero).a.size≤maxLen) :
 Calls Tryz.prog 46 #[.slice ao len cap,.int .i64 left] w fun e w'=>SzOut left (len≤1048576∧∀i,i<len→(cs.getD i Cr.zero).a.size≤1048576) e∧Below w.heap.size w w':=by
 have HI:=H_ hI
 have HN:=H_ hin
 clear hI hin
 unfold maxLen at hm
 by_cases hl:left-(len:Int)<0
 ·go_enter Tryz.func46,Tryz.ntmps46
  go_wp2_with fail
  go_ret
  exact ⟨⟨-1,rfl,.inl rfl⟩,Below.refl _ _⟩
 ·go_enter Tryz.func46,Tryz.ntmps46
  go_wp2_with fail
  go_loopw [5,1] (fun x y wr=>∃(j:Nat) (L:Int),j≤len∧x=.int .i64 j∧y=.int .i64 L∧0≤L∧L≤left∧Hid (∀i,i<j→(cs.getD i Cr.zero).a.size≤1048576)∧Hid (Below w.heap.size w wr)) (fun x y _=>len-(intOf x).toNat)
  case atStart=>exact ⟨0,left-(len:Int),Nat.zero_le _,rfl,rfl,by omega,by omega,H_ (fun i hi=>absurd hi (by omega)),H_ (Below.refl _ _)⟩
  case round =>
   obtain ⟨j,L,hj,rfl,rfl,l0,l1,HL,HB⟩:=hrel
   by_cases hlt:j<len
   ·obtain ⟨b,off,rfl,hbl,c0,c1⟩:=crs_at (HI.out.below HB.out) j hlt
    have q1:=HN.out j hlt
    have HM:=H_ (fun h=>small_moreC HL.out (k:=j) h)
    generalize (cs.getD j Cr.zero)=X at *
    obtain ⟨a,m⟩:=X
    simp only at c0 c1 q1 HM
    have HC:=H_ (fun w=>szCr_any a m L q1 l0 (by omega) w)
    have hlt2:(j:Int)<(len:Int):=by omega
    clear q1
    by_cases hs:(a.size:Int)≤L
    ·rw [if_pos hs] at HC
     have r0:0≤L-(a.size:Int):=by omega
     have r1:L-(a.size:Int)≤left:=by omega
     have HN1:=H_ (HM.out (by omega))
     generalize L-(a.size:Int)=L2 at *
     clear hs
     go_wp2_with fail
     refine (HC.out _).mono ?_
     rintro e w1 ⟨rfl,hb⟩
     have HB1:=H_ (HB.out.trans (hb.mono HB.out.size))
     clear hb c0 c1
     have r2:¬L2<0:=by omega
     go_wp2_with fail
     go_roundw
     case rel=>exact ⟨j+1,L2,by omega,by go_num,rfl,r0,r1,HN1,HB1⟩
     case measure=>simp [intOf];omega
    ·rw [if_neg hs] at HC
     go_wp2_with fail
     refine (HC.out _).mono ?_
     rintro e w1 ⟨rfl,hb⟩
     have HB1:=H_ (HB.out.trans (hb.mono HB.out.size))
     clear hb c0 c1
     go_wp2_with fail
     go_ret
     exact ⟨⟨-1,rfl,.inl rfl⟩,HB1.out⟩
   ·obtain rfl:j=len:=by omega
    go_wp2_with fail
    go_ret
    exact ⟨⟨L,rfl,.inr ⟨l0,l1,by omega,HL.out⟩⟩,HB.out⟩
theorem toCr_any (u:ByteArray) (p:Int) (w:World):Calls Tryz.prog 116 #[.agg #[.string u,.int .i64 p]] w fun e w'=>e=.returned (.agg #[.string u,.int .i64 p])∧Below w.heap.size w w':=by
 go_enter Tryz.func116,Tryz.ntmps116
 go_wp2_with fail
 refine bodyPost_ret (v:=.agg #[.string u,.int .i64 p]) (by simp [results,Tryz.results116,go_sem]) rfl ⟨rfl,?_⟩
 repeat' first|exact Below.refl _ _|apply Below.setCell|apply Below.alloc
 all_goals first|omega|(simp;done)|(simp;omega)
theorem crs_set {wr:World} {g n k:Nat} {ts:List Cr} (hp:Pt g (n*2) wr) (hk:k<n) (ha:∀i,i<k→CrAt wr g (i*2) (ts.getD i Cr.zero)) :
 Pt g (n*2) ((wr.setCell ⟨g,k*2,none⟩ (.string (ts.getD k Cr.zero).a)).setCell ⟨g,k*2+1,none⟩ (.int .i64 (ts.getD k Cr.zero).m))∧∀i,i<k+1→CrAt ((wr.setCell ⟨g,k*2,none⟩ (.string (ts.getD k Cr.zero).a)).setCell ⟨g,k*2+1,none⟩ (.int .i64 (ts.getD k Cr.zero).m)) g (i*2) (ts.getD i Cr.zero):=by
 refine ⟨(hp.set _ _).set _ _,fun i hi=>?_⟩
 by_cases e:i=k
 ·subst e
  exact ⟨(cell_far _ _ (by omega) _).trans (cell_put hp _ (by omega) _),cell_put (hp.set _ _) _ (by omega) _⟩
 ·have h:=ha i (by omega)
  exact ⟨((cell_far _ _ (by omega) _).trans (cell_far _ _ (by omega) _)).trans h.1,((cell_far _ _ (by omega) _).trans (cell_far _ _ (by omega) _)).trans h.2⟩
set_option maxRecDepth 100000 in
set_option maxHeartbeats 4000000 in
theorem toCrs_any (ao:Option Addr) (len cap:Nat) (ts:List Cr) (w:World) (hlen:len≤1048576) (hI:Crs ao len ts w) :
 Calls Tryz.prog 65 #[.slice ao len cap] w fun e w'=>e=.returned (.slice (some ⟨w.heap.size,0,none⟩) len len)∧Crs (some ⟨w.heap.size,0,none⟩) len ts w'∧Pt w.heap.size (len*2) w'∧Below w.heap.size w w':=by
 obtain ⟨i0,hi,hz0,hz1,hz2⟩:=info_parts infoC
 have HI:=H_ hI
 clear hI
 go_enter Tryz.func65,Tryz.ntmps65
 go_wp2_with (at_make;refine wpList_make_full _ rfl _ _ 34 rfl w.heap.size 151 i0 (.agg #[.string ⟨#[]⟩,.int .i64 0]) 2 Tryz.underlying34 hi hz0 hz1 .i64 .i64 _ _ len rfl rfl rfl rfl ?b2 ?b3 ?b4 ?_)
 case b2=>rw [hz2];omega
 case b3=>unfold maxLen;omega
 case b4=>exact Nat.le_refl _
 intro wm hown hgrow
 have HP:=H_ (row_full hown)
 have HB:Hid (Below w.heap.size w wm):=H_ ((Below.refl _ _).grown hgrow (Nat.le_refl _) (fun k e=>by cases e))
 clear hown hgrow hi hz0 hz1 hz2
 go_wp2_with fail
 go_loopw [4] (fun z wr=>∃k:Nat,k≤len∧z=.int .i64 k∧Hid (Below w.heap.size w wr)∧Hid (Pt w.heap.size (len*2) wr)∧Hid (∀i,i<k→CrAt wr w.heap.size (i*2) (ts.getD i Cr.zero))) (fun z _=>len-(intOf z).toNat)
 case atStart=>exact ⟨0,by omega,rfl,HB,HP,H_ (fun i hi=>absurd hi (by omega))⟩
 case round =>
  obtain ⟨k,hk,rfl,HB,HP,HA⟩:=hrel
  by_cases hlt:k<len
  ·have hlt2:(k:Int)<(len:Int):=by omega
   obtain ⟨b,off,rfl,hbl,c0,c1⟩:=crs_at (HI.out.below HB.out) k hlt
   have HS:=H_ (fun W hp ha=>crs_set (wr:=W) (g:=w.heap.size) (n:=len) (k:=k) (ts:=ts) hp hlt ha)
   generalize (ts.getD k Cr.zero)=X at *
   obtain ⟨u,p⟩:=X
   have HC:=H_ (fun w=>toCr_any u p w)
   have HS:Hid (∀W,Pt w.heap.size (len*2) W→(∀i,i<k→CrAt W w.heap.size (i*2) (ts.getD i Cr.zero))→Pt w.heap.size (len*2) ((W.setCell ⟨w.heap.size,k*2,none⟩ (.string u)).setCell ⟨w.heap.size,k*2+1,none⟩ (.int .i64 p))∧∀i,i<k+1→CrAt ((W.setCell ⟨w.heap.size,k*2,none⟩ (.string u)).setCell ⟨w.heap.size,k*2+1,none⟩ (.int .i64 p)) w.heap.size (i*2) (ts.getD i Cr.zero)):=HS
   go_wp2_with fail
   refine (HC.out _).mono ?_
   rintro e w1 ⟨rfl,hb⟩
   have HP1:=H_ (HP.out.below hb)
   have HA1:Hid (∀i,i<k→CrAt w1 w.heap.size (i*2) (ts.getD i Cr.zero)):=H_ (fun i hi=>(HA.out i hi).below HP.out.lt hb)
   have HB1:=H_ (HB.out.trans (hb.mono HB.out.size))
   have HS1:=H_ (HS.out _ HP1.out HA1.out)
   obtain ⟨v0,d0⟩:=HP1.out.has (k*2) (by omega)
   obtain ⟨v1,d1⟩:=HP1.out.has (k*2+1) (by omega)
   have z0:=HP1.out.free (k*2) (by omega)
   have z1:=HP1.out.free (k*2+1) (by omega)
   clear hb c0 c1
   go_wp2_with fail
   go_roundw
   case rel=>exact ⟨k+1,by omega,by go_num,H_ ((HB1.out.setCell (Nat.le_refl _) _).setCell (Nat.le_refl _) _),H_ HS1.out.1,H_ HS1.out.2⟩
   case measure=>simp [intOf];omega
  ·have hlt2:¬(k:Int)<(len:Int):=by omega
   obtain rfl:k=len:=by omega
   go_wp2_with fail
   go_ret
   exact ⟨rfl,⟨HI.out.1,.inr ⟨w.heap.size,0,rfl,HP.out.lt,fun j hj=>by rw [Nat.zero_add];exact HA.out j hj⟩⟩,HP.out,HB.out⟩
theorem eqCr_any (u:ByteArray) (p:Int) (w:World):Calls Tryz.prog 141 #[.agg #[.string u,.int .i64 p],.agg #[.string u,.int .i64 p]] w fun e w'=>e=.returned (.bool true)∧Below w.heap.size w w':=by
 go_enter Tryz.func141,Tryz.ntmps141
 go_wp2
 go_ret
 refine ⟨rfl,?_⟩
 repeat' first|exact Below.refl _ _|apply Below.setCell|apply Below.alloc
 all_goals first|omega|(simp;done)|(simp;omega)
set_option maxHeartbeats 4000000 in
theorem eqCrs_any (ao bo:Option Addr) (len cap cap':Nat) (ts:List Cr) (w:World) (hlen:len≤1048576) (hI:Crs ao len ts w) (hJ:Crs bo len ts w) :
 Calls Tryz.prog 83 #[.slice ao len cap,.slice bo len cap'] w fun e w'=>e=.returned (.bool true)∧Below w.heap.size w w':=by
 have HI:=H_ hI
 have HJ:=H_ hJ
 clear hI hJ
 go_enter Tryz.func83,Tryz.ntmps83
 go_wp2_with fail
 go_loopw [5] (fun z wr=>∃k:Nat,k≤len∧z=.int .i64 k∧Hid (Below w.heap.size w wr)) (fun z _=>len-(intOf z).toNat)
 case atStart=>exact ⟨0,by omega,rfl,H_ (Below.refl _ _)⟩
 case round =>
  obtain ⟨k,hk,rfl,HW⟩:=hrel
  by_cases hlt:k<len
  ·have hlt2:(k:Int)<(len:Int):=by omega
   obtain ⟨b,off,rfl,_,c0,c1⟩:=crs_at (HI.out.below HW.out) k hlt
   obtain ⟨b',off',rfl,_,e0,e1⟩:=crs_at (HJ.out.below HW.out) k hlt
   generalize ts.getD k Cr.zero=X at *
   obtain ⟨u,p⟩:=X
   have HC:=H_ (fun w=>eqCr_any u p w)
   go_wp2_with fail
   go_region_with (go_at_call 141;refine (HC.out _).mono ?_;rintro e w1 ⟨rfl,hb⟩)
   all_goals (
    have HB1:=H_ (HW.out.drew.trans (hb.mono HW.out.drew.size))
    clear hb c0 c1 e0 e1
    go_wp2_with fail
    go_roundw
    case rel=>exact ⟨k+1,by omega,by go_num,HB1⟩
    case measure=>simp [intOf];omega)
  ·have hlt2:¬(k:Int)<(len:Int):=by omega
   go_wp2_with fail
   go_ret
   exact ⟨rfl,HW.out⟩
end CatR
end Go.Proofs.YtnceeaccbcfopaaGreatDoor
