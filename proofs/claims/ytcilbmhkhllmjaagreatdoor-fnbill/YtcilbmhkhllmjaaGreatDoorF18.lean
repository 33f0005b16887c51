/-
  The law's own copy of a list of meters, and two lists held against each other. The condition: at most 1048576 meters, each of at most 1048576 tiers.
  The law's own helpers over a list of credits: their size, copies, two held against each other. The condition: at most 1048576 of them.
  The law's own helpers over a catalog: its size, its copy, two held against each other. The condition: all in it is small.
  Meters and credits in a draw's memory: kept, cut and put. No condition.
-/
import Derived.Test.YtcilbmhkhllmjaaGreatDoorF17
namespace Go.Proofs.YtcilbmhkhllmjaaGreatDoor
open Go.ChangeShapes Go.WideShapes Go.ChangeAt Go.RowKit
set_option linter.unusedVariables false
namespace CatR
open EvtR (Pt cell_put cell_far)
theorem infoM:(Tryz.prog.info? 117).map (fun i=>(i.zero,i.size,i.bytes))=some (some (.agg #[.string ⟨#[]⟩,.int .i64 0,.bool false,.int .i64 0,.int .i64 0,.slice none 0 0]),6,72):=by kernel_rfl
set_option maxRecDepth 100000 in
set_option maxHeartbeats 4000000 in
theorem toMes_any (ao:Option Addr) (len cap:Nat) (ms:List Me) (w:World) (hlen:len≤1048576) (hS:∀i,i<len→(ms.getD i Me.zero).Small) (hI:Mes ao len ms w) :
 Calls Tryz.prog 38 #[.slice ao len cap] w fun e w'=>e=.returned (.slice (some ⟨w.heap.size,0,none⟩) len len)∧(∃bs,NewMes w.heap.size w.heap.size bs len len ms w')∧Below w.heap.size w w':=by
 obtain ⟨i0,hi,hz0,hz1,hz2⟩:=info_parts infoM
 have HI:=hid_intro hI
 have HS:=hid_intro hS
 clear hI hS
 go_enter Tryz.func38,Tryz.ntmps38
 go_wp2_with (at_make;refine wpList_make_full _ rfl _ _ 33 rfl w.heap.size 117 i0 (.agg #[.string ⟨#[]⟩,.int .i64 0,.bool false,.int .i64 0,.int .i64 0,.slice none 0 0]) 6 Tryz.underlying33 hi hz0 hz1 .i64 .i64 _ _ len rfl rfl rfl rfl ?b2 ?b3 ?b4 ?_)
 case b2=>rw [hz2];omega
 case b3=>unfold maxLen;omega
 case b4=>exact Nat.le_refl _
 intro wm hown hgrow
 have HP:=hid_intro (row_full hown)
 have HB:Hid (Below w.heap.size w wm):=hid_intro ((Below.refl _ _).grown hgrow (Nat.le_refl _) (fun k e=>by cases e))
 clear hown hgrow hi hz0 hz1 hz2
 go_wp2_with fail
 go_loopw [4] (fun z wr=>∃(k:Nat) (bs:Nat→Nat),k≤len∧z=.int .i64 k∧Hid (Below w.heap.size w wr)∧Hid (NewMes w.heap.size w.heap.size bs len k ms wr)) (fun z _=>len-(intOf z).toNat)
 case atStart=>exact ⟨0,fun _=>0,by omega,rfl,HB,hid_intro ⟨Nat.le_refl _,HP.out,fun i hi=>absurd hi (by omega),fun i hi=>absurd hi (by omega)⟩⟩
 case round =>
  obtain ⟨k,bs,hk,rfl,HB,HM⟩:=hrel
  by_cases hlt:k<len
  ·have hlt2:(k:Int)<(len:Int):=by omega
   obtain ⟨b,off,rfl,hbl,ta,tc,c0,c1,c2,c3,c4,c5,hT⟩:=mes_at (HI.out.below HB.out) k hlt
   have HC:=hid_intro (toMe_any _ (ms.getD k Me.zero) wr (HS.out k hlt).2 ⟨ta,tc,rfl,hT⟩)
   have HST:=hid_intro (fun w1 hbl b hb hT hP=>HM.out.step (w1:=w1) hbl hlt (b:=b) hb HM.out.blocks hT hP)
   generalize (ms.getD k Me.zero)=X at *
   obtain ⟨n,g,wh,f,l,ts⟩:=X
   unfold setM at HST
   simp only at HC HST c0 c1 c2 c3 c4 c5
   clear hT
   go_wp2_with fail
   refine HC.out.mono ?_
   rintro e w1 ⟨⟨v',rfl,b1,hb1,rfl,hT1,hP1⟩,hbb⟩
   simp only at hT1 hP1
   have HST2:=hid_intro (HST.out w1 hbb b1 hb1 hT1 hP1)
   have HB1:=hid_intro (HB.out.trans (hbb.mono HB.out.size))
   have HP1:=hid_intro (HM.out.pt.below hbb)
   obtain ⟨v0,d0⟩:=HP1.out.has (k*6) (by omega)
   obtain ⟨v1,d1⟩:=HP1.out.has (k*6+1) (by omega)
   obtain ⟨v2,d2⟩:=HP1.out.has (k*6+2) (by omega)
   obtain ⟨v3,d3⟩:=HP1.out.has (k*6+3) (by omega)
   obtain ⟨v4,d4⟩:=HP1.out.has (k*6+4) (by omega)
   obtain ⟨v5,d5⟩:=HP1.out.has (k*6+5) (by omega)
   have z0:=HP1.out.free (k*6) (by omega)
   have z1:=HP1.out.free (k*6+1) (by omega)
   have z2:=HP1.out.free (k*6+2) (by omega)
   have z3:=HP1.out.free (k*6+3) (by omega)
   have z4:=HP1.out.free (k*6+4) (by omega)
   have z5:=HP1.out.free (k*6+5) (by omega)
   clear hbb hT1 hP1 HST HC c0 c1 c2 c3 c4 c5
   generalize ts.length=tl at *
   go_wp2_with fail
   go_roundw
   case rel=>exact ⟨k+1,_,by omega,by go_num,hid_intro ((((((HB1.out.setCell (Nat.le_refl _) _).setCell (Nat.le_refl _) _).setCell (Nat.le_refl _) _).setCell (Nat.le_refl _) _).setCell (Nat.le_refl _) _).setCell (Nat.le_refl _) _),HST2⟩
   case measure=>simp [intOf];omega
  ·have hlt2:¬(k:Int)<(len:Int):=by omega
   obtain rfl:k=len:=by omega
   go_wp2_with fail
   go_ret
   exact ⟨rfl,⟨bs,HM.out⟩,HB.out⟩
set_option maxHeartbeats 4000000 in
theorem eqMes_any (ao bo:Option Addr) (len cap cap':Nat) (ms:List Me) (w:World) (hlen:len≤1048576) (hS:∀i,i<len→(ms.getD i Me.zero).Small) (hI:Mes ao len ms w) (hJ:Mes bo len ms w) :
 Calls Tryz.prog 49 #[.slice ao len cap,.slice bo len cap'] w fun e w'=>e=.returned (.bool true)∧Below w.heap.size w w':=by
 have HI:=hid_intro hI
 have HJ:=hid_intro hJ
 have HS:=hid_intro hS
 clear hI hJ hS
 go_enter Tryz.func49,Tryz.ntmps49
 go_wp2_with fail
 go_loopw [5] (fun z wr=>∃k:Nat,k≤len∧z=.int .i64 k∧Hid (Below w.heap.size w wr)) (fun z _=>len-(intOf z).toNat)
 case atStart=>exact ⟨0,by omega,rfl,hid_intro (Below.refl _ _)⟩
 case round =>
  obtain ⟨k,hk,rfl,HW⟩:=hrel
  by_cases hlt:k<len
  ·have hlt2:(k:Int)<(len:Int):=by omega
   obtain ⟨b,off,rfl,_,ta,tc,c0,c1,c2,c3,c4,c5,hT⟩:=mes_at (HI.out.below HW.out) k hlt
   obtain ⟨b',off',rfl,_,ta',tc',e0,e1,e2,e3,e4,e5,hT'⟩:=mes_at (HJ.out.below HW.out) k hlt
   have HC:=hid_intro (fun W (hW:Below wr.heap.size wr W)=>eqMe_any _ _ (ms.getD k Me.zero) W (HS.out k hlt).2 ⟨ta,tc,rfl,hT.below hW⟩ ⟨ta',tc',rfl,hT'.below hW⟩)
   generalize ms.getD k Me.zero=X at *
   obtain ⟨n,g,wh,f,l,ts⟩:=X
   simp only at HC c0 c1 c2 c3 c4 c5 e0 e1 e2 e3 e4 e5
   clear hT hT'
   generalize ts.length=tl at *
   go_wp2_with fail
   go_region_with (go_at_call 101;refine (HC.out _ (Below.refl _ _).drew).mono ?_;rintro e w1 ⟨rfl,hb⟩)
   all_goals (
    have HB1:=hid_intro (HW.out.drew.trans (hb.mono HW.out.drew.size))
    clear hb c0 c1 c2 c3 c4 c5 e0 e1 e2 e3 e4 e5
    go_wp2_with fail
    go_roundw
    case rel=>exact ⟨k+1,by omega,by go_num,HB1⟩
    case measure=>simp [intOf];omega)
  ·have hlt2:¬(k:Int)<(len:Int):=by omega
   go_wp2_with fail
   go_ret
   exact ⟨rfl,HW.out⟩
end CatR
namespace CatR
open EvtR (Pt cell_put cell_far)
theorem infoC:(Tryz.prog.info? 118).map (fun i=>(i.zero,i.size,i.bytes))=some (some (.agg #[.string ⟨#[]⟩,.int .i64 0]),2,24):=by kernel_rfl
theorem szCr_any (a:ByteArray) (m left:Int) (ha:a.size≤maxLen) (h0:0≤left) (h1:left≤1048576) (w:World) :
 Calls Tryz.prog 74 #[.agg #[.string a,.int .i64 m],.int .i64 left] w fun e w'=>e=.returned (.int .i64 (if (a.size:Int)≤left then left-a.size else -1))∧Below w.heap.size w w':=by
 unfold maxLen at ha
 have HB:=hid_intro ((Below.refl w.heap.size w).alloc (Nat.le_refl _) (Obj.cells #[.string a,.int .i64 m] 112))
 by_cases h:(a.size:Int)≤left
 ·rw [if_pos h]
  have g:¬left-(a.size:Int)<0:=by omega
  go_enter Tryz.func74,Tryz.ntmps74
  go_wp2_with fail
  go_ret
  exact ⟨rfl,HB.out⟩
 ·rw [if_neg h]
  have g:left-(a.size:Int)<0:=by omega
  go_enter Tryz.func74,Tryz.ntmps74
  go_wp2_with fail
  go_ret
  exact ⟨rfl,HB.out⟩
theorem small_moreC {cs:List Cr} {k:Nat} (h:∀i,i<k→(cs.getD i Cr.zero).a.size≤1048576) (hk:(cs.getD k Cr.zero).a.size≤1048576):∀i,i<k+1→(cs.getD i Cr.zero).a.size≤1048576:=fun i hi=>by
 by_cases e:i=k
 ·subst e;exact hk
 ·exact h i (by omega)
set_option maxRecDepth 100000 in
set_option maxHeartbeats 4000000 in
theorem szCrs_any (ao:Option Addr) (len cap:Nat) (cs:List Cr) (left:Int) (w:World) (hm:len≤maxLen) (h0:0≤left) (h1:left≤1048576) (hI:Crs ao len cs w) (hin:∀i,i<len→(cs.getD i Cr.zero).a.size≤maxLen) :
 Calls Tryz.prog 31 #[.slice ao len cap,.int .i64 left] w fun e w'=>SzOut left (len≤1048576∧∀i,i<len→(cs.getD i Cr.zero).a.size≤1048576) e∧Below w.heap.size w w':=by
 have HI:=hid_intro hI
 have HN:=hid_intro hin
 clear hI hin
 unfold maxLen at hm
 by_cases hl:left-(len:Int)<0
 ·go_enter Tryz.func31,Tryz.ntmps31
  go_wp2_with fail
  go_ret
  exact ⟨⟨-1,rfl,.inl rfl⟩,Below.refl _ _⟩
 ·go_enter Tryz.func31,Tryz.ntmps31
  go_wp2_with fail
  go_loopw [5,1] (fun x y wr=>∃(j:Nat) (L:Int),j≤len∧x=.int .i64 j∧y=.int .i64 L∧0≤L∧L≤left∧Hid (∀i,i<j→(cs.getD i Cr.zero).a.size≤1048576)∧Hid (Below w.heap.size w wr)) (fun x y _=>len-(intOf x).toNat)
  case atStart=>exact ⟨0,left-(len:Int),Nat.zero_le _,rfl,rfl,by omega,by omega,hid_intro (fun i hi=>absurd hi (by omega)),hid_intro (Below.refl _ _)⟩
  case round =>
   obtain ⟨j,L,hj,rfl,rfl,l0,l1,HL,HB⟩:=hrel
   by_cases hlt:j<len
   ·obtain ⟨b,off,rfl,hbl,c0,c1⟩:=crs_at (HI.out.below HB.out) j hlt
    have q1:=HN.out j hlt
    have HM:=hid_intro (fun h=>small_moreC HL.out (k:=j) h)
    generalize (cs.getD j Cr.zero)=X at *
    obtain ⟨a,m⟩:=X
    simp only at c0 c1 q1 HM
    have HC:=hid_intro (fun w=>szCr_any a m L q1 l0 (by omega) w)
    have hlt2:(j:Int)<(len:Int):=by omega
    clear q1
    by_cases hs:(a.size:Int)≤L
    ·rw [if_pos hs] at HC
     have r0:0≤L-(a.size:Int):=by omega
     have r1:L-(a.size:Int)≤left:=by omega
     have HN1:=hid_intro (HM.out (by omega))
     generalize L-(a.size:Int)=L2 at *
     clear hs
     go_wp2_with fail
     refine (HC.out _).mono ?_
     rintro e w1 ⟨rfl,hb⟩
     have HB1:=hid_intro (HB.out.trans (hb.mono HB.out.size))
     clear hb c0 c1
     have r2:¬L2<0:=by omega
     go_wp2_with fail
     go_roundw
     case rel=>exact ⟨j+1,L2,by omega,by go_num,rfl,r0,r1,HN1,HB1⟩
     case measure=>simp [intOf];omega
    ·rw [if_neg hs] at HC
     go_wp2_with fail
     refine (HC.out _).mono ?_
     rintro e w1 ⟨rfl,hb⟩
     have HB1:=hid_intro (HB.out.trans (hb.mono HB.out.size))
     clear hb c0 c1
     go_wp2_with fail
     go_ret
     exact ⟨⟨-1,rfl,.inl rfl⟩,HB1.out⟩
   ·obtain rfl:j=len:=by omega
    go_wp2_with fail
    go_ret
    exact ⟨⟨L,rfl,.inr ⟨l0,l1,by omega,HL.out⟩⟩,HB.out⟩
theorem toCr_any (u:ByteArray) (p:Int) (w:World):Calls Tryz.prog 87 #[.agg #[.string u,.int .i64 p]] w fun e w'=>e=.returned (.agg #[.string u,.int .i64 p])∧Below w.heap.size w w':=by
 go_enter Tryz.func87,Tryz.ntmps87
 go_wp2_with fail
 refine bodyPost_ret (v:=.agg #[.string u,.int .i64 p]) (by simp [results,Tryz.results87,go_sem]) rfl ⟨rfl,?_⟩
 repeat' first|exact Below.refl _ _|apply Below.setCell|apply Below.alloc
 all_goals first|omega|(simp;done)|(simp;omega)
theorem crs_set {wr:World} {g n k:Nat} {ts:List Cr} (hp:Pt g (n*2) wr) (hk:k<n) (ha:∀i,i<k→CrAt wr g (i*2) (ts.getD i Cr.zero)) :
 Pt g (n*2) ((wr.setCell ⟨g,k*2,none⟩ (.string (ts.getD k Cr.zero).a)).setCell ⟨g,k*2+1,none⟩ (.int .i64 (ts.getD k Cr.zero).m))∧∀i,i<k+1→CrAt ((wr.setCell ⟨g,k*2,none⟩ (.string (ts.getD k Cr.zero).a)).setCell ⟨g,k*2+1,none⟩ (.int .i64 (ts.getD k Cr.zero).m)) g (i*2) (ts.getD i Cr.zero):=by
 refine ⟨(hp.set _ _).set _ _,fun i hi=>?_⟩
 by_cases e:i=k
 ·subst e
  exact ⟨(cell_far _ _ (by omega) _).trans (cell_put hp _ (by omega) _),cell_put (hp.set _ _) _ (by omega) _⟩
 ·have h:=ha i (by omega)
  exact ⟨((cell_far _ _ (by omega) _).trans (cell_far _ _ (by omega) _)).trans h.1,((cell_far _ _ (by omega) _).trans (cell_far _ _ (by omega) _)).trans h.2⟩
set_option maxRecDepth 100000 in
set_option maxHeartbeats 4000000 in
theorem toCrs_any (ao:Option Addr) (len cap:Nat) (ts:List Cr) (w:World) (hlen:len≤1048576) (hI:Crs ao len ts w) :
 Calls Tryz.prog 39 #[.slice ao len cap] w fun e w'=>e=.returned (.slice (some ⟨w.heap.size,0,none⟩) len len)∧Crs (some ⟨w.heap.size,0,none⟩) len ts w'∧Pt w.heap.size (len*2) w'∧Below w.heap.size w w':=by
 obtain ⟨i0,hi,hz0,hz1,hz2⟩:=info_parts infoC
 have HI:=hid_intro hI
 clear hI
 go_enter Tryz.func39,Tryz.ntmps39
 go_wp2_with (at_make;refine wpList_make_full _ rfl _ _ 34 rfl w.heap.size 118 i0 (.agg #[.string ⟨#[]⟩,.int .i64 0]) 2 Tryz.underlying34 hi hz0 hz1 .i64 .i64 _ _ len rfl rfl rfl rfl ?b2 ?b3 ?b4 ?_)
 case b2=>rw [hz2];omega
 case b3=>unfold maxLen;omega
 case b4=>exact Nat.le_refl _
 intro wm hown hgrow
 have HP:=hid_intro (row_full hown)
 have HB:Hid (Below w.heap.size w wm):=hid_intro ((Below.refl _ _).grown hgrow (Nat.le_refl _) (fun k e=>by cases e))
 clear hown hgrow hi hz0 hz1 hz2
 go_wp2_with fail
 go_loopw [4] (fun z wr=>∃k:Nat,k≤len∧z=.int .i64 k∧Hid (Below w.heap.size w wr)∧Hid (Pt w.heap.size (len*2) wr)∧Hid (∀i,i<k→CrAt wr w.heap.size (i*2) (ts.getD i Cr.zero))) (fun z _=>len-(intOf z).toNat)
 case atStart=>exact ⟨0,by omega,rfl,HB,HP,hid_intro (fun i hi=>absurd hi (by omega))⟩
 case round =>
  obtain ⟨k,hk,rfl,HB,HP,HA⟩:=hrel
  by_cases hlt:k<len
  ·have hlt2:(k:Int)<(len:Int):=by omega
   obtain ⟨b,off,rfl,hbl,c0,c1⟩:=crs_at (HI.out.below HB.out) k hlt
   have HS:=hid_intro (fun W hp ha=>crs_set (wr:=W) (g:=w.heap.size) (n:=len) (k:=k) (ts:=ts) hp hlt ha)
   generalize (ts.getD k Cr.zero)=X at *
   obtain ⟨u,p⟩:=X
   have HC:=hid_intro (fun w=>toCr_any u p w)
   have HS:Hid (∀W,Pt w.heap.size (len*2) W→(∀i,i<k→CrAt W w.heap.size (i*2) (ts.getD i Cr.zero))→Pt w.heap.size (len*2) ((W.setCell ⟨w.heap.size,k*2,none⟩ (.string u)).setCell ⟨w.heap.size,k*2+1,none⟩ (.int .i64 p))∧∀i,i<k+1→CrAt ((W.setCell ⟨w.heap.size,k*2,none⟩ (.string u)).setCell ⟨w.heap.size,k*2+1,none⟩ (.int .i64 p)) w.heap.size (i*2) (ts.getD i Cr.zero)):=HS
   go_wp2_with fail
   refine (HC.out _).mono ?_
   rintro e w1 ⟨rfl,hb⟩
   have HP1:=hid_intro (HP.out.below hb)
   have HA1:Hid (∀i,i<k→CrAt w1 w.heap.size (i*2) (ts.getD i Cr.zero)):=hid_intro (fun i hi=>(HA.out i hi).below HP.out.lt hb)
   have HB1:=hid_intro (HB.out.trans (hb.mono HB.out.size))
   have HS1:=hid_intro (HS.out _ HP1.out HA1.out)
   obtain ⟨v0,d0⟩:=HP1.out.has (k*2) (by omega)
   obtain ⟨v1,d1⟩:=HP1.out.has (k*2+1) (by omega)
   have z0:=HP1.out.free (k*2) (by omega)
   have z1:=HP1.out.free (k*2+1) (by omega)
   clear hb c0 c1
   go_wp2_with fail
   go_roundw
   case rel=>exact ⟨k+1,by omega,by go_num,hid_intro ((HB1.out.setCell (Nat.le_refl _) _).setCell (Nat.le_refl _) _),hid_intro HS1.out.1,hid_intro HS1.out.2⟩
   case measure=>simp [intOf];omega
  ·have hlt2:¬(k:Int)<(len:Int):=by omega
   obtain rfl:k=len:=by omega
   go_wp2_with fail
   go_ret
   exact ⟨rfl,⟨HI.out.1,.inr ⟨w.heap.size,0,rfl,HP.out.lt,fun j hj=>by rw [Nat.zero_add];exact HA.out j hj⟩⟩,HP.out,HB.out⟩
theorem eqCr_any (u:ByteArray) (p:Int) (w:World):Calls Tryz.prog 102 #[.agg #[.string u,.int .i64 p],.agg #[.string u,.int .i64 p]] w fun e w'=>e=.returned (.bool true)∧Below w.heap.size w w':=by
 go_enter Tryz.func102,Tryz.ntmps102
 go_wp2
 go_ret
 refine ⟨rfl,?_⟩
 repeat' first|exact Below.refl _ _|apply Below.setCell|apply Below.alloc
 all_goals first|omega|(simp;done)|(simp;omega)
set_option maxHeartbeats 4000000 in
theorem eqCrs_any (ao bo:Option Addr) (len cap cap':Nat) (ts:List Cr) (w:World) (hlen:len≤1048576) (hI:Crs ao len ts w) (hJ:Crs bo len ts w) :
 Calls Tryz.prog 50 #[.slice ao len cap,.slice bo len cap'] w fun e w'=>e=.returned (.bool true)∧Below w.heap.size w w':=by
 have HI:=hid_intro hI
 have HJ:=hid_intro hJ
 clear hI hJ
 go_enter Tryz.func50,Tryz.ntmps50
 go_wp2_with fail
 go_loopw [5] (fun z wr=>∃k:Nat,k≤len∧z=.int .i64 k∧Hid (Below w.heap.size w wr)) (fun z _=>len-(intOf z).toNat)
 case atStart=>exact ⟨0,by omega,rfl,hid_intro (Below.refl _ _)⟩
 case round =>
  obtain ⟨k,hk,rfl,HW⟩:=hrel
  by_cases hlt:k<len
  ·have hlt2:(k:Int)<(len:Int):=by omega
   obtain ⟨b,off,rfl,_,c0,c1⟩:=crs_at (HI.out.below HW.out) k hlt
   obtain ⟨b',off',rfl,_,e0,e1⟩:=crs_at (HJ.out.below HW.out) k hlt
   generalize ts.getD k Cr.zero=X at *
   obtain ⟨u,p⟩:=X
   have HC:=hid_intro (fun w=>eqCr_any u p w)
   go_wp2_with fail
   go_region_with (go_at_call 102;refine (HC.out _).mono ?_;rintro e w1 ⟨rfl,hb⟩)
   all_goals (
    have HB1:=hid_intro (HW.out.drew.trans (hb.mono HW.out.drew.size))
    clear hb c0 c1 e0 e1
    go_wp2_with fail
    go_roundw
    case rel=>exact ⟨k+1,by omega,by go_num,HB1⟩
    case measure=>simp [intOf];omega)
  ·have hlt2:¬(k:Int)<(len:Int):=by omega
   go_wp2_with fail
   go_ret
   exact ⟨rfl,HW.out⟩
end CatR
namespace CatR
open EvtR (Pt cell_put cell_far)
structure Ca.Small (c:Ca):Prop where
 ml:c.ms.length≤1048576
 ms:∀i,i<c.ms.length→(c.ms.getD i Me.zero).Small
 cl:c.cs.length≤1048576
 cs:∀i,i<c.cs.length→(c.cs.getD i Cr.zero).a.size≤1048576
structure Ca.In (c:Ca):Prop where
 ml:c.ms.length≤maxLen
 ms:∀i,i<c.ms.length→(c.ms.getD i Me.zero).In
 cl:c.cs.length≤maxLen
 cs:∀i,i<c.cs.length→(c.cs.getD i Cr.zero).a.size≤maxLen
theorem NewMes.far {base g:Nat} {bs:Nat→Nat} {n k:Nat} {ms:List Me} {w:World} (h:NewMes base g bs n k ms w) {b:Nat} (hb:b<base) (o:Nat) (v:Value):NewMes base g bs n k ms (w.setCell ⟨b,o,none⟩ v):=by
 have hg:=h.lo
 refine ⟨h.lo,h.pt.far (by omega) o v,h.inc,fun i hi=>?_⟩
 have hi2:=(h.inc i hi).1
 obtain ⟨⟨h0,h1,h2,h3,h4,h5⟩,h6,h7⟩:=h.cel i hi
 have e:=far_block w b o v g (by omega)
 have f:=fun x=>World.cell?_of_block (a:=⟨g,x,none⟩) e
 exact ⟨⟨(f _).trans h0,(f _).trans h1,(f _).trans h2,(f _).trans h3,(f _).trans h4,(f _).trans h5⟩,h6.far (by omega) o v,h7.far (by omega) o v⟩
theorem NewMes.mono {base base' g:Nat} {bs:Nat→Nat} {n k:Nat} {ms:List Me} {w:World} (h:NewMes base g bs n k ms w) (hb:base'≤base):NewMes base' g bs n k ms w:=⟨by have:=h.lo;omega,h.pt,h.inc,h.cel⟩
theorem Crs.far {b0 off len:Nat} {ts:List Cr} {w:World} (h:Crs (some ⟨b0,off,none⟩) len ts w) {b:Nat} (hb:b≠b0) (o:Nat) (v:Value):Crs (some ⟨b0,off,none⟩) len ts (w.setCell ⟨b,o,none⟩ v):=by
 refine ⟨h.1,?_⟩
 rcases h.2 with h0|⟨b1,off1,e,hlt,hc⟩
 ·exact .inl h0
 ·obtain ⟨rfl,rfl⟩:b0=b1∧off=off1:=by simpa using e
  have e:=far_block w b o v b0 hb
  exact .inr ⟨b0,off,rfl,by simpa using hlt,fun j hj=>⟨(World.cell?_of_block (a:=⟨b0,_,none⟩) e).trans (hc j hj).1,(World.cell?_of_block (a:=⟨b0,_,none⟩) e).trans (hc j hj).2⟩⟩
def NewCa (base:Nat) (v:Value) (c:Ca) (w:World):Prop:=∃g bs h,v=.agg #[.slice (some ⟨g,0,none⟩) c.ms.length c.ms.length,.slice (some ⟨h,0,none⟩) c.cs.length c.cs.length]∧NewMes base g bs c.ms.length c.ms.length c.ms w∧g<h∧(∀i,i<c.ms.length→bs i<h)∧Crs (some ⟨h,0,none⟩) c.cs.length c.cs w∧Pt h (c.cs.length*2) w
theorem NewCa.is {base:Nat} {v:Value} {c:Ca} {w:World} (h:NewCa base v c w):IsCa v c w:=by
 obtain ⟨g,bs,h0,h1,h2,h3,h4,h5,h6⟩:=h
 exact ⟨_,_,_,_,h1,h2.is rfl,h5⟩
theorem NewCa.below {base:Nat} {v:Value} {c:Ca} {w w':World} (h:NewCa base v c w) (hb:Below w.heap.size w w'):NewCa base v c w':=by
 obtain ⟨g,bs,h0,h1,h2,h3,h4,h5,h6⟩:=h
 exact ⟨g,bs,h0,h1,h2.below hb,h3,h4,h5.below hb,h6.below hb⟩
set_option maxRecDepth 100000 in
set_option maxHeartbeats 4000000 in
theorem toCa_any (v:Value) (c:Ca) (w:World) (hS:c.Small) (hC:IsCa v c w) :
 Calls Tryz.prog 8 #[v] w fun e w'=>(∃v',e=.returned v'∧NewCa w.heap.size v' c w')∧Below w.heap.size w w':=by
 obtain ⟨ma,mc,ca,cc,rfl,hM,hR⟩:=hC
 obtain ⟨ms,cs⟩:=c
 obtain ⟨s1,s2,s3,s4⟩:=hS
 simp only at *
 have HM:Hid (∀W,Below w.heap.size w W→Calls Tryz.prog 38 #[.slice ma ms.length mc] W fun e w'=>e=.returned (.slice (some ⟨W.heap.size,0,none⟩) ms.length ms.length)∧(∃bs,NewMes W.heap.size W.heap.size bs ms.length ms.length ms w')∧Below W.heap.size W w'):=hid_intro (fun W hW=>toMes_any ma ms.length mc ms W s1 s2 (hM.below hW))
 have HR:Hid (∀W,Below w.heap.size w W→Calls Tryz.prog 39 #[.slice ca cs.length cc] W fun e w'=>e=.returned (.slice (some ⟨W.heap.size,0,none⟩) cs.length cs.length)∧Crs (some ⟨W.heap.size,0,none⟩) cs.length cs w'∧Pt W.heap.size (cs.length*2) w'∧Below W.heap.size W w'):=hid_intro (fun W hW=>toCrs_any ca cs.length cc cs W s3 (hR.below hW))
 have HF:Hid (∀g bs h v w',v=.agg #[.slice (some ⟨g,0,none⟩) ms.length ms.length,.slice (some ⟨h,0,none⟩) cs.length cs.length]→NewMes w.heap.size g bs ms.length ms.length ms w'→g<h→(∀i,i<ms.length→bs i<h)→Crs (some ⟨h,0,none⟩) cs.length cs w'→Pt h (cs.length*2) w'→NewCa w.heap.size v ⟨ms,cs⟩ w'):=hid_intro (fun g bs h v w' h1 h2 h3 h4 h5 h6=>⟨g,bs,h,h1,h2,h3,h4,h5,h6⟩)
 clear hM hR s1 s2 s3 s4
 generalize ms.length=ml at *
 generalize cs.length=cl at *
 obtain ⟨W,hW⟩:∃W,W=(((w.alloc (.cells #[.slice ma ml mc,.slice ca cl cc] 25)).alloc (.cells #[.slice none 0 0,.slice none 0 0] 36)).alloc (.cells #[.slice none 0 0,.slice none 0 0] 36)):=⟨_,rfl⟩
 have HW:=hid_intro hW
 have HBB:Hid (Below w.heap.size w W):=hid_intro (by rw [hW];exact (((Below.refl _ _).alloc (Nat.le_refl _) _).alloc (by simp) _).alloc (by simp;omega) _)
 have hWs:W.heap.size=w.heap.size+3:=by rw [hW];simp
 have p0:W.cell? ⟨w.heap.size,0,none⟩=some (.slice ma ml mc):=by rw [hW];simp [go_sem]
 have p0':W.frozen? ⟨w.heap.size,0,none⟩=false:=by rw [hW];simp [go_sem]
 have p1:W.cell? ⟨w.heap.size,1,none⟩=some (.slice ca cl cc):=by rw [hW];simp [go_sem]
 have p1':W.frozen? ⟨w.heap.size,1,none⟩=false:=by rw [hW];simp [go_sem]
 have b0:W.cell? ⟨w.heap.size+1,0,none⟩=some (.slice none 0 0):=by rw [hW];simp [go_sem]
 have b0':W.frozen? ⟨w.heap.size+1,0,none⟩=false:=by rw [hW];simp [go_sem]
 have b1:W.cell? ⟨w.heap.size+1,1,none⟩=some (.slice none 0 0):=by rw [hW];simp [go_sem]
 have b1':W.frozen? ⟨w.heap.size+1,1,none⟩=false:=by rw [hW];simp [go_sem]
 have a0:W.cell? ⟨w.heap.size+2,0,none⟩=some (.slice none 0 0):=by rw [hW];simp [go_sem]
 have a0':W.frozen? ⟨w.heap.size+2,0,none⟩=false:=by rw [hW];simp [go_sem]
 have a1:W.cell? ⟨w.heap.size+2,1,none⟩=some (.slice none 0 0):=by rw [hW];simp [go_sem]
 have a1':W.frozen? ⟨w.heap.size+2,1,none⟩=false:=by rw [hW];simp [go_sem]
 clear hW
 go_enter Tryz.func8,Tryz.ntmps8
 go_wp2_with fail
 rw [←HW.out]
 refine (HM.out _ HBB.out).mono ?_
 rintro e w1 ⟨rfl,⟨bs,hN1⟩,hb1⟩
 rw [hWs] at hN1
 obtain ⟨hcc,hff⟩:=bcell hb1
 rw [hWs] at hcc hff
 have hlt:w.heap.size+3≤w1.heap.size:=by have:=hb1.size;omega
 have HB1:=hid_intro (HBB.out.trans (hb1.mono HBB.out.size))
 have HN1:=hid_intro hN1
 replace p0:=(hcc w.heap.size 0 (by omega)).trans p0
 replace p0':=(hff w.heap.size 0 (by omega)).trans p0'
 replace p1:=(hcc w.heap.size 1 (by omega)).trans p1
 replace p1':=(hff w.heap.size 1 (by omega)).trans p1'
 replace b0:=(hcc (w.heap.size+1) 0 (by omega)).trans b0
 replace b0':=(hff (w.heap.size+1) 0 (by omega)).trans b0'
 replace b1:=(hcc (w.heap.size+1) 1 (by omega)).trans b1
 replace b1':=(hff (w.heap.size+1) 1 (by omega)).trans b1'
 replace a0:=(hcc (w.heap.size+2) 0 (by omega)).trans a0
 replace a0':=(hff (w.heap.size+2) 0 (by omega)).trans a0'
 replace a1:=(hcc (w.heap.size+2) 1 (by omega)).trans a1
 replace a1':=(hff (w.heap.size+2) 1 (by omega)).trans a1'
 clear hN1 hb1 hcc hff
 obtain ⟨W2,hW2⟩:∃W2,W2=w1.setCell ⟨w.heap.size+1+1,0,none⟩ (.slice (some ⟨w.heap.size+3,0,none⟩) ml ml):=⟨_,rfl⟩
 have HW2:=hid_intro hW2
 have HB2:Hid (Below w.heap.size w W2):=hid_intro (by rw [hW2];exact HB1.out.setCell (show w.heap.size≤w.heap.size+1+1 by omega) _)
 have HN2:Hid (NewMes (w.heap.size+3) (w.heap.size+3) bs ml ml ms W2):=hid_intro (by rw [hW2];exact HN1.out.far (by omega) _ _)
 have hlt2:w.heap.size+3≤W2.heap.size:=by rw [hW2];simpa using hlt
 have p0q:W2.cell? ⟨w.heap.size,0,none⟩=some (.slice ma ml mc):=by rw [hW2];simp [go_sem,p0]
 have p0q':W2.frozen? ⟨w.heap.size,0,none⟩=false:=by rw [hW2];simp [go_sem,p0']
 have p1q:W2.cell? ⟨w.heap.size,1,none⟩=some (.slice ca cl cc):=by rw [hW2];simp [go_sem,p1]
 have p1q':W2.frozen? ⟨w.heap.size,1,none⟩=false:=by rw [hW2];simp [go_sem,p1']
 have b0q:W2.cell? ⟨w.heap.size+1,0,none⟩=some (.slice none 0 0):=by rw [hW2];simp [go_sem,b0]
 have b0q':W2.frozen? ⟨w.heap.size+1,0,none⟩=false:=by rw [hW2];simp [go_sem,b0']
 have b1q:W2.cell? ⟨w.heap.size+1,1,none⟩=some (.slice none 0 0):=by rw [hW2];simp [go_sem,b1]
 have b1q':W2.frozen? ⟨w.heap.size+1,1,none⟩=false:=by rw [hW2];simp [go_sem,b1']
 have a0q:W2.cell? ⟨w.heap.size+2,0,none⟩=some (.slice (some ⟨w.heap.size+3,0,none⟩) ml ml):=by rw [hW2];simp [go_sem,a0]
 have a0q':W2.frozen? ⟨w.heap.size+2,0,none⟩=false:=by rw [hW2];simp [go_sem,a0']
 have a1q:W2.cell? ⟨w.heap.size+2,1,none⟩=some (.slice none 0 0):=by rw [hW2];simp [go_sem,a1]
 have a1q':W2.frozen? ⟨w.heap.size+2,1,none⟩=false:=by rw [hW2];simp [go_sem,a1']
 go_wp2_with fail
 rw [←HW2.out]
 refine (HR.out _ HB2.out).mono ?_
 rintro e w3 ⟨rfl,hC3,hP3,hb3⟩
 have HN3:=hid_intro (HN2.out.below hb3)
 have HBS:=hid_intro HN2.out.blocks
 have HGL:=hid_intro HN2.out.pt.lt
 obtain ⟨hcc,hff⟩:=bcell hb3
 have HB3:=hid_intro (HB2.out.trans (hb3.mono HB2.out.size))
 have HC3:=hid_intro hC3
 have HP3:=hid_intro hP3
 replace p0q:=(hcc w.heap.size 0 (by omega)).trans p0q
 replace p1q:=(hcc w.heap.size 1 (by omega)).trans p1q
 replace b0q:=(hcc (w.heap.size+1) 0 (by omega)).trans b0q
 replace b1q:=(hcc (w.heap.size+1) 1 (by omega)).trans b1q
 replace a0q:=(hcc (w.heap.size+2) 0 (by omega)).trans a0q
 replace a1q:=(hcc (w.heap.size+2) 1 (by omega)).trans a1q
 replace b0q':=(hff (w.heap.size+1) 0 (by omega)).trans b0q'
 replace b1q':=(hff (w.heap.size+1) 1 (by omega)).trans b1q'
 replace a0q':=(hff (w.heap.size+2) 0 (by omega)).trans a0q'
 replace a1q':=(hff (w.heap.size+2) 1 (by omega)).trans a1q'
 clear hC3 hP3 hb3 hcc hff hW2 p0q' p1q' p0 p0' p1 p1' b0 b0' b1 b1' a0 a0' a1 a1'
 generalize W2.heap.size=h2 at *
 go_wp2_with fail
 refine bodyPost_ret (v:=.agg #[.slice (some ⟨w.heap.size+3,0,none⟩) ml ml,.slice (some ⟨h2,0,none⟩) cl cl]) (by simp [results,Tryz.results8,go_sem,b0q,b1q]) rfl ⟨⟨_,rfl,?_⟩,?_⟩
 ·refine HF.out (w.heap.size+3) bs h2 _ _ rfl ?_ ?_ HBS.out ?_ ?_
  ·exact ((((HN3.out.far (show _<_ by omega) _ _).far (show _<_ by omega) _ _).far (show _<_ by omega) _ _)).mono (by omega)
  ·exact HGL.out
  ·exact ((HC3.out.far (show _≠_ by omega) _ _).far (show _≠_ by omega) _ _).far (show _≠_ by omega) _ _
  ·exact ((HP3.out.far (show _≠_ by omega) _ _).far (show _≠_ by omega) _ _).far (show _≠_ by omega) _ _
 ·exact ((HB3.out.setCell (show w.heap.size≤w.heap.size+1+1 by omega) _).setCell (show w.heap.size≤w.heap.size+1 by omega) _).setCell (show w.heap.size≤w.heap.size+1 by omega) _
set_option maxHeartbeats 4000000 in
theorem szCa_any (v:Value) (c:Ca) (w:World) (hN:c.In) (hC:IsCa v c w) :
 Calls Tryz.prog 5 #[v,.int .i64 1048576] w fun e w'=>SzOut 1048576 c.Small e∧Below w.heap.size w w':=by
 obtain ⟨ma,mc,ca,cc,rfl,hM,hR⟩:=hC
 obtain ⟨ms,cs⟩:=c
 obtain ⟨s1,s2,s3,s4⟩:=hN
 simp only at *
 have HM:Hid (∀W,Below w.heap.size w W→Calls Tryz.prog 30 #[.slice ma ms.length mc,.int .i64 1048576] W fun e w'=>SzOut 1048576 (ms.length≤1048576∧∀i,i<ms.length→(ms.getD i Me.zero).Small) e∧Below W.heap.size W w'):=hid_intro (fun W hW=>szMes_any ma ms.length mc ms 1048576 W s1 (by omega) (by omega) (hM.below hW) s2)
 have HR:Hid (∀W L,0≤L→L≤1048576→Below w.heap.size w W→Calls Tryz.prog 31 #[.slice ca cs.length cc,.int .i64 L] W fun e w'=>SzOut L (cs.length≤1048576∧∀i,i<cs.length→(cs.getD i Cr.zero).a.size≤1048576) e∧Below W.heap.size W w'):=hid_intro (fun W L h0 h1 hW=>szCrs_any ca cs.length cc cs L W s3 h0 h1 (hR.below hW) s4)
 have HF:Hid (∀(h1:ms.length≤1048576∧∀i,i<ms.length→(ms.getD i Me.zero).Small) (h2:cs.length≤1048576∧∀i,i<cs.length→(cs.getD i Cr.zero).a.size≤1048576),Ca.Small ⟨ms,cs⟩):=hid_intro (fun h1 h2=>⟨h1.1,h1.2,h2.1,h2.2⟩)
 clear hM hR s1 s2 s3 s4
 have HB:Hid (Below w.heap.size w (w.alloc (.cells #[.slice ma ms.length mc,.slice ca cs.length cc] 25))):=hid_intro ((Below.refl _ _).alloc (Nat.le_refl _) _)
 generalize (ms.length≤1048576∧∀i,i<ms.length→(ms.getD i Me.zero).Small)=PM at *
 generalize (cs.length≤1048576∧∀i,i<cs.length→(cs.getD i Cr.zero).a.size≤1048576)=PC at *
 generalize Ca.Small ⟨ms,cs⟩=PS at *
 generalize ms.length=ml at *
 generalize cs.length=cl at *
 go_enter Tryz.func5,Tryz.ntmps5
 go_wp2_with fail
 refine (HM.out _ HB.out).mono ?_
 rintro e w1 ⟨⟨L,rfl,hL⟩,hb1⟩
 obtain ⟨hcc,hff⟩:=bcell hb1
 have hlt:w.heap.size<w1.heap.size:=by have:=hb1.size;simp at this;omega
 have HB1:=hid_intro (HB.out.trans (hb1.mono HB.out.size))
 have p1:w1.cell? ⟨w.heap.size,1,none⟩=some (.slice ca cl cc):=(hcc w.heap.size 1 (by simp)).trans (by simp [go_sem])
 clear hb1 hcc hff
 rcases hL with rfl|⟨l0,l1,hp⟩
 ·go_wp2_with fail
  go_ret
  exact ⟨⟨-1,rfl,.inl rfl⟩,HB1.out⟩
 ·have g1:¬L<0:=by omega
  have HP:=hid_intro hp
  have HR2:=hid_intro (HR.out w1 L l0 l1 HB1.out)
  clear hp
  go_wp2_with fail
  refine HR2.out.mono ?_
  rintro e w2 ⟨⟨L2,rfl,hL2⟩,hb2⟩
  have HB2:=hid_intro (HB1.out.trans (hb2.mono HB1.out.size))
  clear hb2
  rcases hL2 with rfl|⟨k0,k1,hp2⟩
  ·go_wp2_with fail
   go_ret
   exact ⟨⟨-1,rfl,.inl rfl⟩,HB2.out⟩
  ·have g2:¬L2<0:=by omega
   have HP2:=hid_intro hp2
   have HL2:Hid (L2≤1048576):=hid_intro (by omega)
   clear hp2 k1
   go_wp2_with fail
   go_ret
   exact ⟨⟨L2,rfl,.inr ⟨k0,HL2.out,HF.out HP.out HP2.out⟩⟩,HB2.out⟩
set_option maxHeartbeats 4000000 in
theorem eqCa_any (v v':Value) (c:Ca) (w:World) (hS:c.Small) (hI:IsCa v c w) (hJ:IsCa v' c w) :
 Calls Tryz.prog 12 #[v,v'] w fun e w'=>e=.returned (.bool true)∧Below w.heap.size w w':=by
 obtain ⟨ma,mc,ca,cc,rfl,hM,hR⟩:=hI
 obtain ⟨ma',mc',ca',cc',rfl,hM',hR'⟩:=hJ
 obtain ⟨ms,cs⟩:=c
 obtain ⟨s1,s2,s3,s4⟩:=hS
 simp only at *
 have HM:Hid (∀W,Below w.heap.size w W→Calls Tryz.prog 49 #[.slice ma ms.length mc,.slice ma' ms.length mc'] W fun e w'=>e=.returned (.bool true)∧Below W.heap.size W w'):=hid_intro (fun W hW=>eqMes_any ma ma' ms.length mc mc' ms W s1 s2 (hM.below hW) (hM'.below hW))
 have HR:Hid (∀W,Below w.heap.size w W→Calls Tryz.prog 50 #[.slice ca cs.length cc,.slice ca' cs.length cc'] W fun e w'=>e=.returned (.bool true)∧Below W.heap.size W w'):=hid_intro (fun W hW=>eqCrs_any ca ca' cs.length cc cc' cs W s3 (hR.below hW) (hR'.below hW))
 clear hM hR hM' hR' s1 s2 s3 s4
 generalize ms.length=ml at *
 generalize cs.length=cl at *
 have HB:Hid (Below w.heap.size w ((w.alloc (.cells #[.slice ma ml mc,.slice ca cl cc] 36)).alloc (.cells #[.slice ma' ml mc',.slice ca' cl cc'] 36))):=hid_intro (((Below.refl _ _).alloc (Nat.le_refl _) _).alloc (by simp) _)
 go_enter Tryz.func12,Tryz.ntmps12
 go_wp2_with fail
 refine (HM.out _ HB.out).mono ?_
 rintro e w1 ⟨rfl,hb1⟩
 obtain ⟨hcc,hff⟩:=bcell hb1
 have hlt:w.heap.size+1<w1.heap.size:=by have:=hb1.size;simp at this;omega
 have HB1:=hid_intro (HB.out.trans (hb1.mono HB.out.size))
 have p1:w1.cell? ⟨w.heap.size,1,none⟩=some (.slice ca cl cc):=(hcc w.heap.size 1 (by simp;omega)).trans (by simp [go_sem])
 have p2:w1.cell? ⟨w.heap.size+1,1,none⟩=some (.slice ca' cl cc'):=(hcc (w.heap.size+1) 1 (by simp)).trans (by simp [go_sem])
 clear hb1 hcc hff
 go_wp2_with fail
 refine (HR.out _ HB1.out).mono ?_
 rintro e w2 ⟨rfl,hb2⟩
 have HB2:=hid_intro (HB1.out.trans (hb2.mono HB1.out.size))
 clear hb2
 go_wp2_with fail
 go_ret
 exact ⟨rfl,HB2.out⟩
end CatR
namespace DrawR
open CatR (Ti Me Cr Ca Tis Mes Crs TiAt MeAt CrAt IsMe IsCa)
open EvtR (Pt)
def MesF (av:Nat→Prop) (mb off n:Nat) (ms:List Me) (W:World):Prop:=mb<W.heap.size∧ms.length=n∧∀j,j<n→∃ta tc,(∀i,i<6→W.cell? ⟨mb,off+j*6+i,none⟩=(meC (ms.getD j Me.zero) ta tc)[i]?)∧Tis ta (ms.getD j Me.zero).ts.length (ms.getD j Me.zero).ts W∧(∀b o,ta=some ⟨b,o,none⟩→av b)∧(ms.getD j Me.zero).n.size≤100∧(ms.getD j Me.zero).ts.length≤100
theorem MesF.mes {av:Nat→Prop} {mb off n:Nat} {ms:List Me} {W:World} (h:MesF av mb off n ms W):Mes (some ⟨mb,off,none⟩) n ms W:=by
 obtain ⟨h2,h3,h4⟩:=h
 refine ⟨h3,.inr ⟨mb,off,rfl,h2,fun j hj=>?_⟩⟩
 obtain ⟨ta,tc,hc,hT,_⟩:=h4 j hj
 exact ⟨ta,tc,hc 0 (by omega),hc 1 (by omega),hc 2 (by omega),hc 3 (by omega),hc 4 (by omega),hc 5 (by omega),hT⟩
theorem MesF.kept {av:Nat→Prop} {mb off n x:Nat} {ms:List Me} {W W':World} (h:MesF av mb off n ms W) (hg:W.grownBy W' (some x)) (hx:¬av x) (hm:mb≠x):MesF av mb off n ms W':=by
 obtain ⟨h2,h3,h4⟩:=h
 refine ⟨by have:=hg.size;omega,h3,fun j hj=>?_⟩
 obtain ⟨ta,tc,hc,hT,hf,hs⟩:=h4 j hj
 have eb:=hg.block mb h2 (by simp only [ne_eq,Option.some.injEq];omega)
 refine ⟨ta,tc,fun i hi=>(World.cell?_of_block (a:=⟨mb,off+j*6+i,none⟩) eb).trans (hc i hi),tis_kept hT hg (fun b o e q=>?_),hf,hs⟩
 have:=hf b o e
 cases q
 exact hx this
theorem MesF.below {av:Nat→Prop} {mb off n:Nat} {ms:List Me} {W W':World} (h:MesF av mb off n ms W) (hb:Below W.heap.size W W'):MesF av mb off n ms W':=by
 obtain ⟨h2,h3,h4⟩:=h
 refine ⟨by have:=hb.size;omega,h3,fun j hj=>?_⟩
 obtain ⟨ta,tc,hc,hT,hf,hs⟩:=h4 j hj
 exact ⟨ta,tc,fun i hi=>(hb.cell (p:=⟨mb,off+j*6+i,none⟩) h2).trans (hc i hi),hT.below hb,hf,hs⟩
theorem MesF.drop {av:Nat→Prop} {mb n:Nat} {ms:List Me} {W:World} (h:MesF av mb 0 n ms W) (k:Nat) (hk:k≤n):MesF av mb (k*6) (n-k) (ms.drop k) W:=by
 obtain ⟨h2,h3,h4⟩:=h
 refine ⟨h2,by rw [List.length_drop];omega,fun j hj=>?_⟩
 have e:(ms.drop k).getD j Me.zero=ms.getD (k+j) Me.zero:=by simp [List.getD]
 rw [e]
 obtain ⟨ta,tc,hc,r⟩:=h4 (k+j) (by omega)
 refine ⟨ta,tc,fun i hi=>?_,r⟩
 have:=hc i hi
 rw [show 0+(k+j)*6+i=k*6+j*6+i by rw [Nat.add_mul];omega] at this
 exact this
theorem stL_far (p:Nat):∀(vs:List Value) (o:Nat) (W:World) (j:Nat),(j<o∨o+vs.length≤j)→(StR.stL W p o vs).cell? ⟨p,j,none⟩=W.cell? ⟨p,j,none⟩
 | [],o,W,j,_=>rfl
 | v::vs,o,W,j,h=>by
  rw [StR.stL,stL_far p vs (o+1) _ j (by simp only [List.length_cons] at h;omega)]
  exact EvtR.cell_far _ _ (by simp only [List.length_cons] at h;omega) _
theorem MesF.put {av:Nat→Prop} {mb n:Nat} {ms:List Me} {W:World} (h:MesF av mb 0 n ms W) (hav:¬av mb) (hp:Pt mb (n*6) W) (j:Nat) (hj:j<n) (m:Me) (ta:Option Addr) (tc:Nat) (hT:Tis ta m.ts.length m.ts W) (hf:∀b o,ta=some ⟨b,o,none⟩→av b) (hn:m.n.size≤100) (ht:m.ts.length≤100) :
 MesF av mb 0 n (ms.set j m) (StR.stL W mb (j*6) (meC m ta tc)):=by
 have hg:=StR.stL_grown mb (meC m ta tc) (j*6) W
 obtain ⟨h2,h3,h4⟩:=h
 refine ⟨by have:=hg.size;omega,by rw [List.length_set];exact h3,fun i hi=>?_⟩
 by_cases e:i=j
 ·subst e
  have em:(ms.set i m).getD i Me.zero=m:=by simp [List.getD,h3,hi]
  rw [em]
  refine ⟨ta,tc,fun o ho=>?_,tis_kept hT hg (fun b o e q=>by cases q;exact hav (hf _ _ e)),hf,hn,ht⟩
  rw [Nat.zero_add]
  exact StR.stL_cells (meC m ta tc) (i*6) W hp (by simp only [meC,List.length_cons,List.length_nil];omega) o (by simpa [meC] using ho)
 ·have em:(ms.set j m).getD i Me.zero=ms.getD i Me.zero:=by simp [List.getD,Ne.symm e]
  rw [em]
  obtain ⟨ta',tc',hc,hT',hf',hs'⟩:=h4 i hi
  refine ⟨ta',tc',fun o ho=>?_,tis_kept hT' hg (fun b o e q=>by cases q;exact hav (hf' _ _ e)),hf',hs'⟩
  rw [stL_far mb _ _ _ _ (by simp only [meC,List.length_cons,List.length_nil];omega)]
  exact hc o ho
theorem crs_kept {cb off n x:Nat} {cs:List Cr} {W W':World} (h:Crs (some ⟨cb,off,none⟩) n cs W) (hg:W.grownBy W' (some x)) (hx:x≠cb):Crs (some ⟨cb,off,none⟩) n cs W':=by
 obtain ⟨h1,h2⟩:=h
 refine ⟨h1,?_⟩
 rcases h2 with h0|⟨b,o,e,hl,hc⟩
 ·exact .inl h0
 ·cases e
  have eb:=hg.block cb hl (by simp only [ne_eq,Option.some.injEq];omega)
  exact .inr ⟨cb,off,rfl,by have:=hg.size;omega,fun j hj=>⟨(World.cell?_of_block (a:=⟨cb,off+j*2,none⟩) eb).trans (hc j hj).1,(World.cell?_of_block (a:=⟨cb,off+j*2+1,none⟩) eb).trans (hc j hj).2⟩⟩
theorem tis_kp {ta:Option Addr} {len:Nat} {ts:List Ti} {W W':World} (h:Tis ta len ts W) (hs:W.heap.size≤W'.heap.size) (hk:∀b o,ta=some ⟨b,o,none⟩→b<W.heap.size→W'.heap[b]? = W.heap[b]?):Tis ta len ts W':=by
 obtain ⟨h1,h2⟩:=h
 refine ⟨h1,h2.imp id ?_⟩
 rintro ⟨b,o,e,hl,hc⟩
 have eb:=hk b o e hl
 exact ⟨b,o,e,by omega,fun j hj=>⟨(World.cell?_of_block (a:=⟨b,o+j*2,none⟩) eb).trans (hc j hj).1,(World.cell?_of_block (a:=⟨b,o+j*2+1,none⟩) eb).trans (hc j hj).2⟩⟩
theorem crs_kp {ca:Option Addr} {len:Nat} {cs:List Cr} {W W':World} (h:Crs ca len cs W) (hs:W.heap.size≤W'.heap.size) (hk:∀b o,ca=some ⟨b,o,none⟩→b<W.heap.size→W'.heap[b]? = W.heap[b]?):Crs ca len cs W':=by
 obtain ⟨h1,h2⟩:=h
 refine ⟨h1,h2.imp id ?_⟩
 rintro ⟨b,o,e,hl,hc⟩
 have eb:=hk b o e hl
 exact ⟨b,o,e,by omega,fun j hj=>⟨(World.cell?_of_block (a:=⟨b,o+j*2,none⟩) eb).trans (hc j hj).1,(World.cell?_of_block (a:=⟨b,o+j*2+1,none⟩) eb).trans (hc j hj).2⟩⟩
theorem MesF.kp {av:Nat→Prop} {mb off n lo:Nat} {ms:List Me} {W W':World} (h:MesF av mb off n ms W) (hav:∀b,av b→lo≤b) (hm:lo≤mb) (hs:W.heap.size≤W'.heap.size) (hk:∀k,lo≤k→k<W.heap.size→W'.heap[k]? = W.heap[k]?):MesF av mb off n ms W':=by
 obtain ⟨h2,h3,h4⟩:=h
 refine ⟨by omega,h3,fun j hj=>?_⟩
 obtain ⟨ta,tc,hc,hT,hf,hz⟩:=h4 j hj
 have eb:=hk mb hm h2
 exact ⟨ta,tc,fun i hi=>(World.cell?_of_block (a:=⟨mb,off+j*6+i,none⟩) eb).trans (hc i hi),tis_kp hT hs (fun b o e hl=>hk b (hav b (hf b o e)) hl),hf,hz⟩
theorem plain_mesF (w:World) (av:Nat→Prop) (hav:∀b,w.heap.size<b→b≤w.heap.size+4→av b):MesF av (w.heap.size+1+1+1+1+1) 0 4 plainM (plainW w):=by
 refine ⟨(plain_m w).1,rfl,fun j hj=>?_⟩
 obtain ⟨b,h1,h2,h3,hc,hT,t1,t2,t3⟩:=plain_at w j hj
 refine ⟨some ⟨b,0,none⟩,(plainM.getD j Me.zero).ts.length,fun i hi=>?_,hT,fun b' o e=>?_,t3,by omega⟩
 ·rw [Nat.zero_add];exact hc i hi
 ·cases e
  exact hav b h1 h2
theorem plain_ptm (w:World):Pt (w.heap.size+1+1+1+1+1) 24 (plainW w):=by
 refine ⟨(plain_m w).1,fun o ho=>?_,fun o ho=>?_⟩
 ·have h:=(plain_m w).2 o ho
  have hl:o<([.string ⟨#[99,112,117]⟩,.int .i64 1,.bool false,.int .i64 10,.int .i64 0,.slice (some ⟨w.heap.size+1,0,none⟩) 2 2]:List Value).length+18:=by simpa using ho
  obtain ⟨v,hv⟩:∃v,(plainW w).cell? ⟨w.heap.size+1+1+1+1+1,o,none⟩=some v:=by
   rw [h]
   exact ⟨_,List.getElem?_eq_getElem (by simpa using ho)⟩
  exact ⟨v,hv⟩
 ·simp [plainW,go_sem]
def CaOut (ao:Option Addr) (len cap g:Nat) (w:World) (e:Ending) (w':World):Prop:=(∃(c:Ca) (ma:Option Addr) (mc:Nat) (ca:Option Addr) (cc:Nat),e=.returned (.agg #[.slice ma c.ms.length mc,.slice ca c.cs.length cc])∧Mes ma c.ms.length c.ms w'∧Crs ca c.cs.length c.cs w'∧c.Small∧∀W':World,w'.heap.size≤W'.heap.size→(∀k,w.heap.size≤k→k<w'.heap.size→W'.heap[k]? = w'.heap[k]?)→Mes ma c.ms.length c.ms W'∧Crs ca c.cs.length c.cs W')∧Src ao len cap g w'∧w.grownBy w' (some g)
theorem small_of {av:Nat→Prop} {mb off n:Nat} {ms:List Me} {cs:List Cr} {W:World} (h:MesF av mb off n ms W) (hn:n≤4) (hc:cs.length≤10) (hs:∀c∈cs,c.a.size≤100):Ca.Small ⟨ms,cs⟩:=by
 obtain ⟨h2,h3,h4⟩:=h
 refine ⟨by show ms.length≤_;omega,fun i hi=>?_,by show cs.length≤_;omega,fun i hi=>?_⟩
 ·obtain ⟨ta,tc,_,_,_,a1,a2⟩:=h4 i (by rw [←h3];exact hi)
  exact ⟨Nat.le_trans a1 (by omega),Nat.le_trans a2 (by omega)⟩
 ·have hi':i<cs.length:=hi
  have:=hs (cs.getD i Cr.zero) (by simp [List.getD,hi'])
  exact Nat.le_trans this (by omega)
end DrawR
end Go.Proofs.YtcilbmhkhllmjaaGreatDoor
