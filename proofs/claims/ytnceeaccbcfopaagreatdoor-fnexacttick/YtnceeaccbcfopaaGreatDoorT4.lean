/-
  Lists of entries: what is read of a row of them, the law's own copies, and lists held against each other. The condition: at most 1048576 entries.
-/
import Derived.Deep.RegionWith
import Derived.Test.YtnceeaccbcfopaaGreatDoorT3
namespace Go.Proofs.YtnceeaccbcfopaaGreatDoor
open Go.ChangeShapes Go.WideShapes Go.ChangeAt Go.RowKit
set_option linter.unusedVariables false
namespace SeenR
open RowG
open EvtR (Pt)
structure N where
 i:ByteArray
 n:Int
 s:Int
def N.v (e:N):Value:=.agg #[.string e.i,.int .i64 e.n,.int .i64 e.s]
def N.zero:N:=⟨⟨#[]⟩,0,0⟩
def N.cells (e:N):List Value:=[.string e.i,.int .i64 e.n,.int .i64 e.s]
theorem N.len (e:N):e.cells.length=3:=rfl
def Ens (ao:Option Addr) (es:List N) (w:World):Prop:=Rws 3 N.cells N.zero ao es w
theorem Ens.below {ao:Option Addr} {es:List N} {w w':World} (h:Ens ao es w) (hb:Below w.heap.size w w'):Ens ao es w':=Rws.below h hb
theorem Ens.at {ao:Option Addr} {es:List N} {w:World} (h:Ens ao es w) (j:Nat) (hj:j<es.length):∃b off,ao=some ⟨b,off,none⟩∧b<w.heap.size∧w.cell? ⟨b,off+j*3,none⟩=some (.string (es.getD j N.zero).i)∧w.cell? ⟨b,off+j*3+1,none⟩=some (.int .i64 (es.getD j N.zero).n)∧w.cell? ⟨b,off+j*3+2,none⟩=some (.int .i64 (es.getD j N.zero).s):=by
 obtain ⟨b,off,h1,h2,h3⟩:=Rws.at h j hj
 exact ⟨b,off,h1,h2,h3 0 (by omega),h3 1 (by omega),h3 2 (by omega)⟩
def szL (es:List N):Int:=(es.map (fun e=>(e.i.size:Int))).sum
theorem szL_nn (es:List N):0≤szL es:=by
 unfold szL
 induction es with
 | nil=>simp
 | cons e es ih=>simp only [List.map_cons,List.sum_cons];omega
theorem szL_take (es:List N) (k:Nat) (h:k<es.length):szL (es.take (k+1))=szL (es.take k)+((es.getD k N.zero).i.size:Int):=by
 unfold szL
 rw [take_more (z:=N.zero) es k h,List.map_append,List.sum_append]
 simp
theorem szL_le (es:List N) (k:Nat):szL (es.take k)≤szL es:=by
 have:=szL_nn (es.drop k)
 have e:szL es=szL (es.take k)+szL (es.drop k):=by
  unfold szL
  rw [←List.sum_append,←List.map_append,List.take_append_drop]
 omega
theorem sz_any (i:ByteArray) (n s left:Int) (h1:i.size≤maxLen) (hl:0≤left) (hl2:left≤1048576) (w:World) :
 Calls Tryz.prog 48 #[.agg #[.string i,.int .i64 n,.int .i64 s],.int .i64 left] w fun e w'=>e=.returned (.int .i64 (if (i.size:Int)≤left then left-(i.size:Int) else -1))∧Below w.heap.size w w':=by
 unfold maxLen at *
 have HB:=H_ ((Below.refl w.heap.size w).alloc (Nat.le_refl _) (Obj.cells #[.string i,.int .i64 n,.int .i64 s] 90))
 rcases (show (left-(i.size:Int)<0)∨(¬left-(i.size:Int)<0) by omega) with q1|q1
 all_goals
  go_enter Tryz.func48,Tryz.ntmps48
  go_wp2_with fail
  go_ret
  refine ⟨ret_int ?_,HB.out⟩
  first|rfl|omega|(rw [if_neg (by omega)];done)|(rw [if_pos (by omega)];done)
theorem infoN:(Tryz.prog.info? 110).map (fun i=>(i.zero,i.size,i.bytes))=some (some (.agg #[.string ⟨#[]⟩,.int .i64 0,.int .i64 0]),3,32):=by kernel_rfl
theorem row_full3 {w:World} {base e g n s:Nat} {xs:List Value} (h:w.ownsRow base e s (.slice (some ⟨g,0,none⟩) n n) n xs):Pt g (n*s) w:=by
 rcases h.2 with ⟨h1,_⟩|⟨g',cap,cur,h1,_,hg,_,_,hs,_⟩
 ·simp at h1
 ·simp at h1
  obtain ⟨rfl,rfl⟩:=h1
  refine ⟨(Array.getElem?_eq_some_iff.1 hg).1,fun o ho=>⟨cur[o]'(by omega),?_⟩,fun o ho=>?_⟩
  ·have:o<cur.size:=by omega
   simp [World.cell?,hg,this]
  ·simp [World.frozen?,hg]
theorem toEntry_any (i:ByteArray) (n s:Int) (w:World) :
 Calls Tryz.prog 67 #[.agg #[.string i,.int .i64 n,.int .i64 s]] w fun e w'=>e=.returned (.agg #[.string i,.int .i64 n,.int .i64 s])∧Below w.heap.size w w':=by
 go_enter Tryz.func67,Tryz.ntmps67
 go_wp2_with fail
 refine bodyPost_ret (v:=.agg #[.string i,.int .i64 n,.int .i64 s]) (by simp [results,Tryz.results67,go_sem]) rfl ⟨rfl,?_⟩
 repeat' first|exact Below.refl _ _|apply Below.setCell|apply Below.alloc
 all_goals first|omega|(simp;done)|(simp;omega)
theorem fill_step {f:Nat→Option Value} {w wr:World} {m j:Nat} (hb:Below w.heap.size w wr) (hp:Pt w.heap.size m wr) (hw:Wr f j w.heap.size wr) (hj:j<m) (v:Value) (hv:f j=some v) :
 Below w.heap.size w (wr.setCell ⟨w.heap.size,j,none⟩ v)∧Pt w.heap.size m (wr.setCell ⟨w.heap.size,j,none⟩ v)∧Wr f (j+1) w.heap.size (wr.setCell ⟨w.heap.size,j,none⟩ v) :=
 ⟨hb.setCell (Nat.le_refl _) _,hp.set _ _,hw.more hp hj v hv⟩
set_option maxRecDepth 100000 in
set_option maxHeartbeats 4000000 in
theorem toEns_any (ao:Option Addr) (cap:Nat) (es:List N) (w:World) (hlen:es.length≤1048576) (hI:Ens ao es w) :
 Calls Tryz.prog 24 #[.slice ao es.length cap] w fun e w'=>e=.returned (.slice (some ⟨w.heap.size,0,none⟩) es.length es.length)∧Ens (some ⟨w.heap.size,0,none⟩) es w'∧Pt w.heap.size (es.length*3) w'∧Below w.heap.size w w':=by
 obtain ⟨i0,hi,hz0,hz1,hz2⟩:=info_parts infoN
 have HI:=H_ hI
 have HWS:Hid (∀wr,Wr (cellAt 3 N.cells N.zero es) (es.length*3) w.heap.size wr→w.heap.size<wr.heap.size→Ens (some ⟨w.heap.size,0,none⟩) es wr):=H_ (fun wr h hl=>Wr.rws h hl)
 have HZ:Hid (∀k,k<es.length→True):=H_ (fun _ _=>trivial)
 obtain ⟨len,hl⟩:∃len,len=es.length:=⟨_,rfl⟩
 rw [←hl] at hlen HWS ⊢
 have HL:=H_ hl
 clear hI hl
 go_enter Tryz.func24,Tryz.ntmps24
 go_wp2_with (at_make;refine wpList_make_full _ rfl _ _ 38 rfl w.heap.size 110 i0 (.agg #[.string ⟨#[]⟩,.int .i64 0,.int .i64 0]) 3 Tryz.underlying38 hi hz0 hz1 .i64 .i64 _ _ len rfl rfl rfl rfl ?b2 ?b3 ?b4 ?_)
 case b2=>rw [hz2];omega
 case b3=>unfold maxLen;omega
 case b4=>exact Nat.le_refl _
 intro wm hown hgrow
 have HB0:Hid (Below w.heap.size w wm):=H_ ((Below.refl _ _).grown hgrow (Nat.le_refl _) (fun k e=>by cases e))
 have HP0:=H_ (row_full3 hown)
 clear hown hgrow hi hz0 hz1 hz2
 go_wp2_with fail
 go_loopw [4] (fun z wr=>∃k:Nat,k≤len∧z=.int .i64 k∧Hid (Below w.heap.size w wr)∧Hid (Pt w.heap.size (len*3) wr)∧Hid (Wr (cellAt 3 N.cells N.zero es) (k*3) w.heap.size wr)) (fun z _=>len-(intOf z).toNat)
 case atStart=>exact ⟨0,by omega,rfl,HB0,HP0,H_ (fun o ho=>absurd ho (by omega))⟩
 case round =>
  obtain ⟨k,hk,rfl,HB,HP,HW⟩:=hrel
  by_cases hlt:k<len
  ·have hlt2:(k:Int)<(len:Int):=by omega
   obtain ⟨b,off,rfl,hbl,c0,c1,c2⟩:=(HI.out.below HB.out).at k (by have:=HL.out;omega)
   have HX:=H_ (cellAt_of (k:=3) (cells:=N.cells) (z:=N.zero) (xs:=es) k)
   generalize es.getD k N.zero=X at *
   obtain ⟨xi,xn,xs⟩:=X
   have HC:=H_ (fun w=>toEntry_any xi xn xs w)
   go_wp2_with fail
   refine (HC.out _).mono ?_
   rintro e w1 ⟨rfl,hb⟩
   replace HW:=H_ (HW.out.below HP.out hb)
   replace HP:=H_ (HP.out.below hb)
   replace HB:=H_ (HB.out.trans (hb.mono HB.out.size))
   have HS0:=H_ (fill_step HB.out HP.out HW.out (by omega) (.string xi) (HX.out 0 (by omega)))
   have HS1:=H_ (fill_step HS0.out.1 HS0.out.2.1 HS0.out.2.2 (by omega) (.int .i64 xn) (HX.out 1 (by omega)))
   have HS2:=H_ (fill_step HS1.out.1 HS1.out.2.1 HS1.out.2.2 (by omega) (.int .i64 xs) (HX.out 2 (by omega)))
   obtain ⟨v0,d0⟩:=HP.out.has (k*3) (by omega)
   obtain ⟨v1,d1⟩:=HP.out.has (k*3+1) (by omega)
   obtain ⟨v2,d2⟩:=HP.out.has (k*3+2) (by omega)
   have z0:=HP.out.free (k*3) (by omega)
   have z1:=HP.out.free (k*3+1) (by omega)
   have z2:=HP.out.free (k*3+2) (by omega)
   clear hb c0 c1 c2 HX HS0 HS1
   go_wp2_with fail
   go_roundw
   case rel=>exact ⟨k+1,by omega,by go_num,H_ HS2.out.1,H_ HS2.out.2.1,H_ (by rw [show (k+1)*3=k*3+1+1+1 by omega];exact HS2.out.2.2)⟩
   case measure=>simp [intOf];omega
  ·have hlt2:¬(k:Int)<(len:Int):=by omega
   obtain rfl:k=len:=by omega
   go_wp2_with fail
   go_ret
   exact ⟨rfl,HWS.out _ HW.out HP.out.lt,HP.out,HB.out⟩
theorem eqEntry_any (i:ByteArray) (n s:Int) (w:World):Calls Tryz.prog 85 #[.agg #[.string i,.int .i64 n,.int .i64 s],.agg #[.string i,.int .i64 n,.int .i64 s]] w fun e w'=>e=.returned (.bool true)∧Below w.heap.size w w':=by
 go_enter Tryz.func85,Tryz.ntmps85
 go_wp2
 go_ret
 refine ⟨rfl,?_⟩
 repeat' first|exact Below.refl _ _|apply Below.setCell|apply Below.alloc
 all_goals first|omega|(simp;done)|(simp;omega)
set_option maxHeartbeats 4000000 in
theorem eqEns_any (ao bo:Option Addr) (cap cap':Nat) (es:List N) (w:World) (hlen:es.length≤1048576) (hI:Ens ao es w) (hJ:Ens bo es w) :
 Calls Tryz.prog 36 #[.slice ao es.length cap,.slice bo es.length cap'] w fun e w'=>e=.returned (.bool true)∧Below w.heap.size w w':=by
 have HI:=H_ hI
 have HJ:=H_ hJ
 obtain ⟨len,hl⟩:∃len,len=es.length:=⟨_,rfl⟩
 rw [←hl] at hlen ⊢
 have HL:=H_ hl
 clear hI hJ hl
 go_enter Tryz.func36,Tryz.ntmps36
 go_wp2_with fail
 go_loopw [5] (fun z wr=>∃k:Nat,k≤len∧z=.int .i64 k∧Hid (Below w.heap.size w wr)) (fun z _=>len-(intOf z).toNat)
 case atStart=>exact ⟨0,by omega,rfl,H_ (Below.refl _ _)⟩
 case round =>
  obtain ⟨k,hk,rfl,HW⟩:=hrel
  by_cases hlt:k<len
  ·have hlt2:(k:Int)<(len:Int):=by omega
   obtain ⟨b,off,rfl,_,c0,c1,c2⟩:=(HI.out.below HW.out).at k (by have:=HL.out;omega)
   obtain ⟨b',off',rfl,_,e0,e1,e2⟩:=(HJ.out.below HW.out).at k (by have:=HL.out;omega)
   generalize es.getD k N.zero=X at *
   obtain ⟨xi,xn,xs⟩:=X
   have HC:=H_ (fun w=>eqEntry_any xi xn xs w)
   go_wp2_with fail
   go_region_with (go_at_call 85;refine (HC.out _).mono ?_;rintro e w1 ⟨rfl,hb⟩)
   all_goals (
    have HB1:=H_ (HW.out.drew.trans (hb.mono HW.out.drew.size))
    clear hb c0 c1 c2 e0 e1 e2
    go_wp2_with fail
    go_roundw
    case rel=>exact ⟨k+1,by omega,by go_num,HB1⟩
    case measure=>simp [intOf];omega)
  ·have hlt2:¬(k:Int)<(len:Int):=by omega
   go_wp2_with fail
   go_ret
   exact ⟨rfl,HW.out⟩
end SeenR
end Go.Proofs.YtnceeaccbcfopaaGreatDoor
