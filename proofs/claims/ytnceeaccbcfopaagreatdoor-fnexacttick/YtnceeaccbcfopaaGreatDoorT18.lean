/-
  Lists of texts that the law is given: how many letters, the law's own copies, held against each other, marked. The condition: at most 1048576 of each.
-/
import Derived.Deep.RegionWith
import Derived.Deep.QuietTactic
import Derived.Test.YtnceeaccbcfopaaGreatDoorT17
namespace Go.Proofs.YtnceeaccbcfopaaGreatDoor
open Go.ChangeShapes Go.WideShapes Go.ChangeAt Go.RowKit
set_option linter.unusedVariables false
namespace StxR
open RowG
open EvtR (Pt)
open MarkR (mk mT)
theorem bdN {B:Nat} {a w:World} (h:Below B a w) (n:Nat):Below B a (w.drewN n):=⟨h.os,h.tape,h.output,h.size,h.block⟩
def tz:ByteArray:=⟨#[]⟩
def tcells (t:ByteArray):List Value:=[.string t]
theorem t_len (t:ByteArray):(tcells t).length=1:=rfl
def Tgs (ao:Option Addr) (ts:List ByteArray) (w:World):Prop:=Rws 1 tcells tz ao ts w
theorem Tgs.below {ao:Option Addr} {ts:List ByteArray} {w w':World} (h:Tgs ao ts w) (hb:Below w.heap.size w w'):Tgs ao ts w':=Rws.below h hb
theorem Tgs.at {ao:Option Addr} {ts:List ByteArray} {w:World} (h:Tgs ao ts w) (j:Nat) (hj:j<ts.length):∃b off,ao=some ⟨b,off,none⟩∧b<w.heap.size∧w.cell? ⟨b,off+j,none⟩=some (.string (ts.getD j tz)):=by
 obtain ⟨b,off,h1,h2,h3⟩:=Rws.at h j hj
 have:=h3 0 (by omega)
 rw [Nat.mul_one] at this
 exact ⟨b,off,h1,h2,this⟩
def tsz (ts:List ByteArray):Int:=(ts.map (fun t=>(t.size:Int))).sum
theorem tsz_nn (ts:List ByteArray):0≤tsz ts:=by
 unfold tsz
 induction ts with
 | nil=>simp
 | cons e es ih=>simp only [List.map_cons,List.sum_cons];omega
theorem tsz_take (ts:List ByteArray) (k:Nat) (h:k<ts.length):tsz (ts.take (k+1))=tsz (ts.take k)+((ts.getD k tz).size:Int):=by
 unfold tsz
 rw [take_more (z:=tz) ts k h,List.map_append,List.sum_append]
 simp
theorem tsz_le (ts:List ByteArray) (k:Nat):tsz (ts.take k)≤tsz ts:=by
 have:=tsz_nn (ts.drop k)
 have e:tsz ts=tsz (ts.take k)+tsz (ts.drop k):=by
  unfold tsz
  rw [←List.sum_append,←List.map_append,List.take_append_drop]
 omega
theorem tsz_mem {ts:List ByteArray} {t:ByteArray} (h:t∈ts):(t.size:Int)≤tsz ts:=by
 unfold tsz
 induction ts with
 | nil=>simp at h
 | cons e es ih =>
  have:=tsz_nn es
  unfold tsz at this
  simp only [List.map_cons,List.sum_cons]
  rcases List.mem_cons.1 h with rfl|h
  ·omega
  ·have:=ih h;omega
def tszR (ts:List ByteArray) (left:Int):Int:=if (ts.length:Int)+tsz ts≤left then left-(ts.length:Int)-tsz ts else -1
set_option maxHeartbeats 4000000 in
theorem szT_any (ao:Option Addr) (cap:Nat) (ts:List ByteArray) (left:Int) (w:World) (hm:ts.length≤maxLen) (h0:0≤left) (h1:left≤1048576) (hI:Tgs ao ts w) (hw:∀t∈ts,t.size≤maxLen) :
 Calls Tryz.prog 100 #[.slice ao ts.length cap,.int .i64 left] w fun e w'=>e=.returned (.int .i64 (tszR ts left))∧Below w.heap.size w w':=by
 obtain ⟨len,hlen⟩:∃len,len=ts.length:=⟨_,rfl⟩
 rw [←hlen] at hm ⊢
 have HZ:=H_ hlen
 have HI:=H_ hI
 have HW:=H_ hw
 have HR:Hid (tszR ts left=if (ts.length:Int)+tsz ts≤left then left-(ts.length:Int)-tsz ts else -1):=rfl
 generalize tszR ts left=R at *
 unfold maxLen at hm
 clear hI hw hlen
 by_cases hbig:left<(len:Int)
 ·have hl2:left-(len:Int)<0:=by omega
  have HN:Hid (R=-1):=H_ (by rw [HR.out,if_neg];have:=tsz_nn ts;have:=HZ.out;omega)
  go_enter Tryz.func100,Tryz.ntmps100
  go_wp2_with fail
  go_ret
  exact ⟨ret_int HN.out.symm,Below.refl _ _⟩
 have hl:(len:Int)≤1048576:=by omega
 have hl2:¬left-(len:Int)<0:=by omega
 go_enter Tryz.func100,Tryz.ntmps100
 go_wp2_with fail
 go_loopw [5,1] (fun x y w'=>∃(j:Nat) (L:Int),j≤len∧x=.int .i64 j∧y=.int .i64 L∧0≤L∧L≤1048576∧Hid (L=left-(len:Int)-tsz (ts.take j))∧Hid (Below w.heap.size w w')) (fun x y w'=>len-(intOf x).toNat)
 case atStart=>exact ⟨0,left-(len:Int),Nat.zero_le _,rfl,rfl,by omega,by omega,H_ (by simp [tsz]),H_ (Below.refl _ _)⟩
 case round =>
  obtain ⟨j,L,hj,rfl,rfl,l0,l1,HL,HB⟩:=hrel
  by_cases hlt:j<len
  ·obtain ⟨b,off,rfl,hbl,c0⟩:=(HI.out.below HB.out).at j (by have:=HZ.out;omega)
   have HS:=H_ (tsz_take ts j (by have:=HZ.out;omega))
   have q1:=HW.out _ (getD_mem (z:=tz) ts j (by have:=HZ.out;omega))
   unfold maxLen at q1
   generalize ts.getD j tz=X at *
   have hlt2:(j:Int)<(len:Int):=by omega
   by_cases hs:(X.size:Int)≤L
   ·have HN:Hid (L-(X.size:Int)=left-(len:Int)-tsz (ts.take (j+1))):=H_ (by rw [HS.out,HL.out];omega)
    have r2:¬L-(X.size:Int)<0:=by omega
    go_wp2_with fail
    go_roundw
    case rel=>exact ⟨j+1,_,by omega,by go_num,rfl,by omega,by omega,HN,HB⟩
    case measure=>simp [intOf];omega
   ·have HN:Hid (R=-1):=H_ (by rw [HR.out,if_neg];have:=tsz_le ts (j+1);have:=HS.out;have:=HL.out;have:=HZ.out;omega)
    have r2:L-(X.size:Int)<0:=by omega
    go_wp2_with fail
    go_ret
    exact ⟨ret_int HN.out.symm,HB.out⟩
  ·obtain rfl:j=len:=by omega
   have hlt2:¬(j:Int)<(j:Int):=by omega
   have HN:Hid (R=L):=H_ (by
    have e:=HL.out
    rw [List.take_of_length_le (by have:=HZ.out;omega)] at e
    rw [HR.out,if_pos (by have:=HZ.out;omega)];have:=HZ.out;omega)
   go_wp2_with fail
   go_ret
   exact ⟨ret_int HN.out.symm,HB.out⟩
theorem infoT:(Tryz.prog.info? 9).map (fun i=>(i.zero,i.size,i.bytes))=some (some (.string ⟨#[]⟩),1,16):=by kernel_rfl
theorem row_full {w:World} {base e g n s:Nat} {xs:List Value} (h:w.ownsRow base e s (.slice (some ⟨g,0,none⟩) n n) n xs):Pt g (n*s) w:=by
 rcases h.2 with ⟨h1,_⟩|⟨g',cap,cur,h1,_,hg,_,_,hs,_⟩
 ·simp at h1
 ·simp at h1
  obtain ⟨rfl,rfl⟩:=h1
  refine ⟨(Array.getElem?_eq_some_iff.1 hg).1,fun o ho=>⟨cur[o]'(by omega),?_⟩,fun o ho=>?_⟩
  ·have:o<cur.size:=by omega
   simp [World.cell?,hg,this]
  ·simp [World.frozen?,hg]
theorem fill_step {f:Nat→Option Value} {w wr:World} {m j:Nat} (hb:Below w.heap.size w wr) (hp:Pt w.heap.size m wr) (hw:Wr f j w.heap.size wr) (hj:j<m) (v:Value) (hv:f j=some v) :
 Below w.heap.size w (wr.setCell ⟨w.heap.size,j,none⟩ v)∧Pt w.heap.size m (wr.setCell ⟨w.heap.size,j,none⟩ v)∧Wr f (j+1) w.heap.size (wr.setCell ⟨w.heap.size,j,none⟩ v) :=
 ⟨hb.setCell (Nat.le_refl _) _,hp.set _ _,hw.more hp hj v hv⟩
theorem cellT (ts:List ByteArray) (o:Nat):cellAt 1 tcells tz ts o=some (.string (ts.getD o tz)):=by
 unfold cellAt
 rw [Nat.div_one,Nat.mod_one]
 rfl
set_option maxRecDepth 100000 in
set_option maxHeartbeats 4000000 in
theorem toTs_any (ao:Option Addr) (cap:Nat) (ts:List ByteArray) (w:World) (hlen:ts.length≤1048576) (hI:Tgs ao ts w) :
 Calls Tryz.prog 117 #[.slice ao ts.length cap] w fun e w'=>e=.returned (.slice (some ⟨w.heap.size,0,none⟩) ts.length ts.length)∧Tgs (some ⟨w.heap.size,0,none⟩) ts w'∧Pt w.heap.size ts.length w'∧Below w.heap.size w w':=by
 obtain ⟨i0,hi,hz0,hz1,hz2⟩:=info_parts infoT
 have HI:=H_ hI
 have HWS:Hid (∀wr,Wr (cellAt 1 tcells tz ts) (ts.length*1) w.heap.size wr→w.heap.size<wr.heap.size→Tgs (some ⟨w.heap.size,0,none⟩) ts wr):=H_ (fun wr h hl=>Wr.rws h hl)
 obtain ⟨len,hl⟩:∃len,len=ts.length:=⟨_,rfl⟩
 rw [←hl] at hlen HWS ⊢
 have HL:=H_ hl
 clear hI hl
 go_enter Tryz.func117,Tryz.ntmps117
 go_wp2_with (at_make;refine wpList_make_full _ rfl _ _ 92 rfl w.heap.size 9 i0 (.string ⟨#[]⟩) 1 Tryz.underlying92 hi hz0 hz1 .i64 .i64 _ _ len rfl rfl rfl rfl ?b2 ?b3 ?b4 ?_)
 case b2=>rw [hz2];omega
 case b3=>unfold maxLen;omega
 case b4=>exact Nat.le_refl _
 intro wm hown hgrow
 have HB0:Hid (Below w.heap.size w wm):=H_ ((Below.refl _ _).grown hgrow (Nat.le_refl _) (fun k e=>by cases e))
 have HP0:=H_ (row_full hown)
 clear hown hgrow hi hz0 hz1 hz2
 go_wp2_with fail
 go_loopw [4] (fun z wr=>∃k:Nat,k≤len∧z=.int .i64 k∧Hid (Below w.heap.size w wr)∧Hid (Pt w.heap.size (len*1) wr)∧Hid (Wr (cellAt 1 tcells tz ts) k w.heap.size wr)) (fun z _=>len-(intOf z).toNat)
 case atStart=>exact ⟨0,by omega,rfl,HB0,HP0,H_ (fun o ho=>absurd ho (by omega))⟩
 case round =>
  obtain ⟨k,hk,rfl,HB,HP,HW⟩:=hrel
  by_cases hlt:k<len
  ·have hlt2:(k:Int)<(len:Int):=by omega
   obtain ⟨b,off,rfl,hbl,c0⟩:=(HI.out.below HB.out).at k (by have:=HL.out;omega)
   have HS0:=H_ (fill_step HB.out HP.out HW.out (by omega) (.string (ts.getD k tz)) (cellT ts k))
   generalize ts.getD k tz=X at *
   obtain ⟨v0,d0⟩:=HP.out.has k (by omega)
   have z0:=HP.out.free k (by omega)
   go_wp2_with fail
   go_roundw
   case rel=>exact ⟨k+1,by omega,by go_num,H_ HS0.out.1,H_ HS0.out.2.1,H_ HS0.out.2.2⟩
   case measure=>simp [intOf];omega
  ·have hlt2:¬(k:Int)<(len:Int):=by omega
   obtain rfl:k=len:=by omega
   go_wp2_with fail
   go_ret
   exact ⟨rfl,HWS.out _ (by rw [Nat.mul_one];exact HW.out) HP.out.lt,(by have h:=HP.out;rwa [Nat.mul_one] at h),HB.out⟩
set_option maxHeartbeats 4000000 in
theorem eqTs_any (ao bo:Option Addr) (cap cap':Nat) (ts:List ByteArray) (w:World) (hlen:ts.length≤1048576) (hI:Tgs ao ts w) (hJ:Tgs bo ts w) :
 Calls Tryz.prog 142 #[.slice ao ts.length cap,.slice bo ts.length cap'] w fun e w'=>e=.returned (.bool true)∧Below w.heap.size w w':=by
 have HI:=H_ hI
 have HJ:=H_ hJ
 obtain ⟨len,hl⟩:∃len,len=ts.length:=⟨_,rfl⟩
 rw [←hl] at hlen ⊢
 have HL:=H_ hl
 clear hI hJ hl
 go_enter Tryz.func142,Tryz.ntmps142
 go_wp2_with fail
 go_loopw [5] (fun z wr=>∃k:Nat,k≤len∧z=.int .i64 k∧Hid (Below w.heap.size w wr)) (fun z _=>len-(intOf z).toNat)
 case atStart=>exact ⟨0,by omega,rfl,H_ (Below.refl _ _)⟩
 case round =>
  obtain ⟨k,hk,rfl,HW⟩:=hrel
  by_cases hlt:k<len
  ·have hlt2:(k:Int)<(len:Int):=by omega
   obtain ⟨b,off,rfl,_,c0⟩:=(HI.out.below HW.out).at k (by have:=HL.out;omega)
   obtain ⟨b',off',rfl,_,e0⟩:=(HJ.out.below HW.out).at k (by have:=HL.out;omega)
   generalize ts.getD k tz=X at *
   go_wp2_with fail
   try (go_quiet (fail);go_wp2_with fail)
   go_roundw
   case rel=>exact ⟨k+1,by omega,by go_num,H_ (by first|exact HW.out|exact bdN HW.out _)⟩
   case measure=>simp [intOf];omega
  ·have hlt2:¬(k:Int)<(len:Int):=by omega
   go_wp2_with fail
   go_ret
   exact ⟨rfl,HW.out⟩
def mtC (K o:Nat):Option Value:=some (.string (mT (K+o)))
theorem mark_st {f:Nat→Option Value} {g m j:Nat} {w0 w:World} (hp:Pt g m w) (hm:Wr f j g w) (hg:w0.grownBy w (some g)) (hj:j<m) (v:Value) (hv:f j=some v) :
 Pt g m (w.setCell ⟨g,j,none⟩ v)∧Wr f (j+1) g (w.setCell ⟨g,j,none⟩ v)∧w0.grownBy (w.setCell ⟨g,j,none⟩ v) (some g) :=
 ⟨hp.set _ _,hm.more hp hj v hv,OwG.gtransO hg (grown_set _ g _ _)⟩
set_option maxRecDepth 100000 in
set_option maxHeartbeats 4000000 in
theorem markT (g n cap K:Nat) (w:World) (hn:n≤1048576) (hK:1≤K∧K≤10000000) (h0:Pt g n w) :
 Calls Tryz.prog 90 #[.slice (some ⟨g,0,none⟩) n cap,.int .i64 K] w fun e w'=>e=.returned (.int .i64 (K+n:Nat))∧Pt g n w'∧Wr (mtC K) n g w'∧w.grownBy w' (some g):=by
 have HP:=H_ h0
 obtain ⟨k1,k2⟩:=hK
 have HT:Hid (∀(z:Int) (L:Nat),z=L→1≤L→L<100000000→∀w,Calls Tryz.prog 89 #[.int .i64 z] w fun e w'=>e=.returned (.string (mT L))∧Below w.heap.size w w'):=H_ (fun z L e h0 h w=>by subst e;exact MarkR.mark_any L h0 h w)
 clear h0
 go_enter Tryz.func90,Tryz.ntmps90
 go_wp2_with fail
 go_loopw [5,1] (fun x z wr=>∃i:Nat,x=.int .i64 (i:Int)∧z=.int .i64 ((K:Int)+(i:Int))∧i≤n∧Hid (Pt g n wr)∧Hid (Wr (mtC K) i g wr)∧Hid (w.grownBy wr (some g))) (fun x _ _=>n-(intOf x).toNat)
 case atStart=>exact ⟨0,rfl,by simp,by omega,HP,H_ (fun o ho=>absurd ho (by omega)),H_ ⟨rfl,rfl,rfl,Nat.le_refl _,fun _ _ _=>rfl⟩⟩
 case round =>
  obtain ⟨i,rfl,rfl,hi,HP,HM,HG⟩:=hrel
  by_cases hin:i=n
  ·subst hin
   go_wp2_with fail
   go_ret
   exact ⟨by go_num,HP.out,HM.out,HG.out⟩
  ·have h1:(i:Int)<(n:Int):=by omega
   go_wp2_with fail
   refine (HT.out _ (K+i) (by push_cast;omega) (by omega) (by omega) _).mono ?_
   rintro e w1 ⟨rfl,hb⟩
   have HP1:=H_ (HP.out.below hb)
   have HM1:=H_ (HM.out.below HP.out hb)
   have HG1:=H_ (OwG.gtransO HG.out (OwG.rgrownO hb _))
   obtain ⟨v0,c0⟩:=HP1.out.has i (by omega)
   have f0:=HP1.out.free i (by omega)
   have HS:=H_ (mark_st HP1.out HM1.out HG1.out (by omega) (.string (mT (K+i))) rfl)
   clear hb HP HM HG HP1 HM1 HG1
   go_wp2_with fail
   go_roundw
   case rel=>exact ⟨i+1,by go_num,by (congr 1)<;>omega,by omega,H_ HS.out.1,H_ HS.out.2.1,H_ HS.out.2.2⟩
   case measure=>simp [intOf];omega
end StxR
end Go.Proofs.YtnceeaccbcfopaaGreatDoor
