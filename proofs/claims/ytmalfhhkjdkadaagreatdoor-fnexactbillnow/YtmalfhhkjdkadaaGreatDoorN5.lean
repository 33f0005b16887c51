/-
  Lists of entries: what is read of a row of them, the law's own copies, and lists held against each other. The condition: at most 1048576 entries.
  The order of texts, what a right catalog is, and a map of meters by their names, as read. No condition.
  The program's map of meters by their names: made, and taken from. The condition: at most 6 meters, their names of at most 1048576 bytes; the program's own error stands in its variable.
  What the program and the model call a right meter: they are one. The conditions: the name has at most 1048576 bytes, the tiers are at most 1048576.
  errors.Is at the program's own sentinel: of the sentinel it tells true, of nil false. No condition.
-/
import Derived.Deep.RegionWith
import Derived.Maps.OwnSet
import Derived.OwnWalk
import Derived.Carry
import Derived.Deep.RegionHeld3
import Derived.LaidEql
import Derived.Stop.Asserts
import Derived.RowKitTokens
import Derived.Test.YtmalfhhkjdkadaaGreatDoorN4
namespace Go.Proofs.YtmalfhhkjdkadaaGreatDoor
open Go.ChangeShapes Go.WideShapes Go.ChangeAt Go.RowKit
set_option linter.unusedVariables false
namespace SeenR
open RowG
open EvtR (Pt)
structure N where
 i:ByteArray
 n:Int
 s:Int
def N.v (e:N):Value:=.agg #[.string e.i,.int .i64 e.n,.int .i64 e.s]
def N.zero:N:=⟨⟨#[]⟩,0,0⟩
def N.cells (e:N):List Value:=[.string e.i,.int .i64 e.n,.int .i64 e.s]
theorem N.len (e:N):e.cells.length=3:=rfl
def Ens (ao:Option Addr) (es:List N) (w:World):Prop:=Rws 3 N.cells N.zero ao es w
theorem Ens.below {ao:Option Addr} {es:List N} {w w':World} (h:Ens ao es w) (hb:Below w.heap.size w w'):Ens ao es w':=Rws.below h hb
theorem Ens.at {ao:Option Addr} {es:List N} {w:World} (h:Ens ao es w) (j:Nat) (hj:j<es.length):∃b off,ao=some ⟨b,off,none⟩∧b<w.heap.size∧w.cell? ⟨b,off+j*3,none⟩=some (.string (es.getD j N.zero).i)∧w.cell? ⟨b,off+j*3+1,none⟩=some (.int .i64 (es.getD j N.zero).n)∧w.cell? ⟨b,off+j*3+2,none⟩=some (.int .i64 (es.getD j N.zero).s):=by
 obtain ⟨b,off,h1,h2,h3⟩:=Rws.at h j hj
 exact ⟨b,off,h1,h2,h3 0 (by omega),h3 1 (by omega),h3 2 (by omega)⟩
def szL (es:List N):Int:=(es.map (fun e=>(e.i.size:Int))).sum
theorem szL_nn (es:List N):0≤szL es:=by
 unfold szL
 induction es with
 | nil=>simp
 | cons e es ih=>simp only [List.map_cons,List.sum_cons];omega
theorem szL_take (es:List N) (k:Nat) (h:k<es.length):szL (es.take (k+1))=szL (es.take k)+((es.getD k N.zero).i.size:Int):=by
 unfold szL
 rw [take_more (z:=N.zero) es k h,List.map_append,List.sum_append]
 simp
theorem szL_le (es:List N) (k:Nat):szL (es.take k)≤szL es:=by
 have:=szL_nn (es.drop k)
 have e:szL es=szL (es.take k)+szL (es.drop k):=by
  unfold szL
  rw [←List.sum_append,←List.map_append,List.take_append_drop]
 omega
def szR (es:List N):Int:=if (es.length:Int)+szL es≤1048576 then 1048576-(es.length:Int)-szL es else -1
theorem sz_any (i:ByteArray) (n s left:Int) (h1:i.size≤maxLen) (hl:0≤left) (hl2:left≤1048576) (w:World) :
 Calls Tryz.prog 46 #[.agg #[.string i,.int .i64 n,.int .i64 s],.int .i64 left] w fun e w'=>e=.returned (.int .i64 (if (i.size:Int)≤left then left-(i.size:Int) else -1))∧Below w.heap.size w w':=by
 unfold maxLen at *
 have HB:=hid_intro ((Below.refl w.heap.size w).alloc (Nat.le_refl _) (Obj.cells #[.string i,.int .i64 n,.int .i64 s] 90))
 rcases (show (left-(i.size:Int)<0)∨(¬left-(i.size:Int)<0) by omega) with q1|q1
 all_goals
  go_enter Tryz.func46,Tryz.ntmps46
  go_wp2_with fail
  go_ret
  refine ⟨ret_int ?_,HB.out⟩
  first|rfl|omega|(rw [if_neg (by omega)];done)|(rw [if_pos (by omega)];done)
set_option maxHeartbeats 4000000 in
theorem szs_any (ao:Option Addr) (cap:Nat) (es:List N) (w:World) (hm:es.length≤maxLen) (hI:Ens ao es w) (hw:∀e∈es,e.i.size≤maxLen) :
 Calls Tryz.prog 15 #[.slice ao es.length cap,.int .i64 1048576] w fun e w'=>e=.returned (.int .i64 (szR es))∧Below w.heap.size w w':=by
 obtain ⟨len,hlen⟩:∃len,len=es.length:=⟨_,rfl⟩
 rw [←hlen] at hm ⊢
 have HZ:=hid_intro hlen
 have HI:=hid_intro hI
 have HW:=hid_intro hw
 have HR:Hid (szR es=if (es.length:Int)+szL es≤1048576 then 1048576-(es.length:Int)-szL es else -1):=rfl
 generalize szR es=R at *
 unfold maxLen at hm
 clear hI hw hlen
 by_cases hbig:1048576<len
 ·have hl2:(1048576:Int)-(len:Int)<0:=by omega
  have HN:Hid (R=-1):=hid_intro (by rw [HR.out,if_neg];have:=szL_nn es;have:=HZ.out;omega)
  go_enter Tryz.func15,Tryz.ntmps15
  go_wp2_with fail
  go_ret
  exact ⟨ret_int HN.out.symm,Below.refl _ _⟩
 have hl:(len:Int)≤1048576:=by omega
 have hl2:¬(1048576:Int)-(len:Int)<0:=by omega
 go_enter Tryz.func15,Tryz.ntmps15
 go_wp2_with fail
 go_loopw [5,1] (fun x y w'=>∃(j:Nat) (L:Int),j≤len∧x=.int .i64 j∧y=.int .i64 L∧0≤L∧L≤1048576∧Hid (L=1048576-(len:Int)-szL (es.take j))∧Hid (Below w.heap.size w w')) (fun x y w'=>len-(intOf x).toNat)
 case atStart=>exact ⟨0,1048576-(len:Int),Nat.zero_le _,rfl,rfl,by omega,by omega,hid_intro (by simp [szL]),hid_intro (Below.refl _ _)⟩
 case round =>
  obtain ⟨j,L,hj,rfl,rfl,l0,l1,HL,HB⟩:=hrel
  by_cases hlt:j<len
  ·obtain ⟨b,off,rfl,hbl,c0,c1,c2⟩:=(HI.out.below HB.out).at j (by have:=HZ.out;omega)
   have HS:=hid_intro (szL_take es j (by have:=HZ.out;omega))
   have q1:=HW.out _ (getD_mem (z:=N.zero) es j (by have:=HZ.out;omega))
   generalize es.getD j N.zero=E1 at *
   obtain ⟨i,n,s⟩:=E1
   have HS:Hid (szL (es.take (j+1))=szL (es.take j)+(i.size:Int)):=HS
   have HC:=hid_intro (fun w=>sz_any i n s L q1 l0 l1 w)
   have hlt2:(j:Int)<(len:Int):=by omega
   clear q1
   by_cases hs:(i.size:Int)≤L
   ·rw [if_pos hs] at HC
    have HN:Hid (L-(i.size:Int)=1048576-(len:Int)-szL (es.take (j+1))):=hid_intro (by rw [HS.out,HL.out];omega)
    have r0:0≤L-(i.size:Int):=by omega
    have r1:L-(i.size:Int)≤1048576:=by omega
    generalize L-(i.size:Int)=L2 at *
    clear hs
    go_wp2_with fail
    refine (HC.out _).mono ?_
    rintro e w1 ⟨rfl,hb⟩
    have HB1:=hid_intro (HB.out.trans (hb.mono HB.out.size))
    clear hb HB c0 c1 c2
    have r2:¬L2<0:=by omega
    go_wp2_with fail
    go_roundw
    case rel=>exact ⟨j+1,L2,by omega,by go_num,rfl,r0,r1,HN,HB1⟩
    case measure=>simp [intOf];omega
   ·rw [if_neg hs] at HC
    have HN:Hid (R=-1):=hid_intro (by rw [HR.out,if_neg];have:=szL_le es (j+1);have:=HS.out;have:=HL.out;have:=HZ.out;omega)
    go_wp2_with fail
    refine (HC.out _).mono ?_
    rintro e w1 ⟨rfl,hb⟩
    have HB1:=hid_intro (HB.out.trans (hb.mono HB.out.size))
    clear hb HB c0 c1 c2
    go_wp2_with fail
    go_ret
    exact ⟨ret_int HN.out.symm,HB1.out⟩
  ·obtain rfl:j=len:=by omega
   have HN:Hid (R=L):=hid_intro (by
    have e:=HL.out
    rw [List.take_of_length_le (by have:=HZ.out;omega)] at e
    rw [HR.out,if_pos (by have:=HZ.out;omega)];have:=HZ.out;omega)
   go_wp2_with fail
   go_ret
   exact ⟨ret_int HN.out.symm,HB.out⟩
theorem infoN:(Tryz.prog.info? 111).map (fun i=>(i.zero,i.size,i.bytes))=some (some (.agg #[.string ⟨#[]⟩,.int .i64 0,.int .i64 0]),3,32):=by kernel_rfl
theorem row_full3 {w:World} {base e g n s:Nat} {xs:List Value} (h:w.ownsRow base e s (.slice (some ⟨g,0,none⟩) n n) n xs):Pt g (n*s) w:=by
 rcases h.2 with ⟨h1,_⟩|⟨g',cap,cur,h1,_,hg,_,_,hs,_⟩
 ·simp at h1
 ·simp at h1
  obtain ⟨rfl,rfl⟩:=h1
  refine ⟨(Array.getElem?_eq_some_iff.1 hg).1,fun o ho=>⟨cur[o]'(by omega),?_⟩,fun o ho=>?_⟩
  ·have:o<cur.size:=by omega
   simp [World.cell?,hg,this]
  ·simp [World.frozen?,hg]
theorem toEntry_any (i:ByteArray) (n s:Int) (w:World) :
 Calls Tryz.prog 66 #[.agg #[.string i,.int .i64 n,.int .i64 s]] w fun e w'=>e=.returned (.agg #[.string i,.int .i64 n,.int .i64 s])∧Below w.heap.size w w':=by
 go_enter Tryz.func66,Tryz.ntmps66
 go_wp2_with fail
 refine bodyPost_ret (v:=.agg #[.string i,.int .i64 n,.int .i64 s]) (by simp [results,Tryz.results66,go_sem]) rfl ⟨rfl,?_⟩
 repeat' first|exact Below.refl _ _|apply Below.setCell|apply Below.alloc
 all_goals first|omega|(simp;done)|(simp;omega)
theorem fill_step {f:Nat→Option Value} {w wr:World} {m j:Nat} (hb:Below w.heap.size w wr) (hp:Pt w.heap.size m wr) (hw:Wr f j w.heap.size wr) (hj:j<m) (v:Value) (hv:f j=some v) :
 Below w.heap.size w (wr.setCell ⟨w.heap.size,j,none⟩ v)∧Pt w.heap.size m (wr.setCell ⟨w.heap.size,j,none⟩ v)∧Wr f (j+1) w.heap.size (wr.setCell ⟨w.heap.size,j,none⟩ v) :=
 ⟨hb.setCell (Nat.le_refl _) _,hp.set _ _,hw.more hp hj v hv⟩
set_option maxRecDepth 100000 in
set_option maxHeartbeats 4000000 in
theorem toEns_any (ao:Option Addr) (cap:Nat) (es:List N) (w:World) (hlen:es.length≤1048576) (hI:Ens ao es w) :
 Calls Tryz.prog 25 #[.slice ao es.length cap] w fun e w'=>e=.returned (.slice (some ⟨w.heap.size,0,none⟩) es.length es.length)∧Ens (some ⟨w.heap.size,0,none⟩) es w'∧Pt w.heap.size (es.length*3) w'∧Below w.heap.size w w':=by
 obtain ⟨i0,hi,hz0,hz1,hz2⟩:=info_parts infoN
 have HI:=hid_intro hI
 have HWS:Hid (∀wr,Wr (cellAt 3 N.cells N.zero es) (es.length*3) w.heap.size wr→w.heap.size<wr.heap.size→Ens (some ⟨w.heap.size,0,none⟩) es wr):=hid_intro (fun wr h hl=>Wr.rws h hl)
 have HZ:Hid (∀k,k<es.length→True):=hid_intro (fun _ _=>trivial)
 obtain ⟨len,hl⟩:∃len,len=es.length:=⟨_,rfl⟩
 rw [←hl] at hlen HWS ⊢
 have HL:=hid_intro hl
 clear hI hl
 go_enter Tryz.func25,Tryz.ntmps25
 go_wp2_with (at_make;refine wpList_make_full _ rfl _ _ 42 rfl w.heap.size 111 i0 (.agg #[.string ⟨#[]⟩,.int .i64 0,.int .i64 0]) 3 Tryz.underlying42 hi hz0 hz1 .i64 .i64 _ _ len rfl rfl rfl rfl ?b2 ?b3 ?b4 ?_)
 case b2=>rw [hz2];omega
 case b3=>unfold maxLen;omega
 case b4=>exact Nat.le_refl _
 intro wm hown hgrow
 have HB0:Hid (Below w.heap.size w wm):=hid_intro ((Below.refl _ _).grown hgrow (Nat.le_refl _) (fun k e=>by cases e))
 have HP0:=hid_intro (row_full3 hown)
 clear hown hgrow hi hz0 hz1 hz2
 go_wp2_with fail
 go_loopw [4] (fun z wr=>∃k:Nat,k≤len∧z=.int .i64 k∧Hid (Below w.heap.size w wr)∧Hid (Pt w.heap.size (len*3) wr)∧Hid (Wr (cellAt 3 N.cells N.zero es) (k*3) w.heap.size wr)) (fun z _=>len-(intOf z).toNat)
 case atStart=>exact ⟨0,by omega,rfl,HB0,HP0,hid_intro (fun o ho=>absurd ho (by omega))⟩
 case round =>
  obtain ⟨k,hk,rfl,HB,HP,HW⟩:=hrel
  by_cases hlt:k<len
  ·have hlt2:(k:Int)<(len:Int):=by omega
   obtain ⟨b,off,rfl,hbl,c0,c1,c2⟩:=(HI.out.below HB.out).at k (by have:=HL.out;omega)
   have HX:=hid_intro (cellAt_of (k:=3) (cells:=N.cells) (z:=N.zero) (xs:=es) k)
   generalize es.getD k N.zero=X at *
   obtain ⟨xi,xn,xs⟩:=X
   have HC:=hid_intro (fun w=>toEntry_any xi xn xs w)
   go_wp2_with fail
   refine (HC.out _).mono ?_
   rintro e w1 ⟨rfl,hb⟩
   replace HW:=hid_intro (HW.out.below HP.out hb)
   replace HP:=hid_intro (HP.out.below hb)
   replace HB:=hid_intro (HB.out.trans (hb.mono HB.out.size))
   have HS0:=hid_intro (fill_step HB.out HP.out HW.out (by omega) (.string xi) (HX.out 0 (by omega)))
   have HS1:=hid_intro (fill_step HS0.out.1 HS0.out.2.1 HS0.out.2.2 (by omega) (.int .i64 xn) (HX.out 1 (by omega)))
   have HS2:=hid_intro (fill_step HS1.out.1 HS1.out.2.1 HS1.out.2.2 (by omega) (.int .i64 xs) (HX.out 2 (by omega)))
   obtain ⟨v0,d0⟩:=HP.out.has (k*3) (by omega)
   obtain ⟨v1,d1⟩:=HP.out.has (k*3+1) (by omega)
   obtain ⟨v2,d2⟩:=HP.out.has (k*3+2) (by omega)
   have z0:=HP.out.free (k*3) (by omega)
   have z1:=HP.out.free (k*3+1) (by omega)
   have z2:=HP.out.free (k*3+2) (by omega)
   clear hb c0 c1 c2 HX HS0 HS1
   go_wp2_with fail
   go_roundw
   case rel=>exact ⟨k+1,by omega,by go_num,hid_intro HS2.out.1,hid_intro HS2.out.2.1,hid_intro (by rw [show (k+1)*3=k*3+1+1+1 by omega];exact HS2.out.2.2)⟩
   case measure=>simp [intOf];omega
  ·have hlt2:¬(k:Int)<(len:Int):=by omega
   obtain rfl:k=len:=by omega
   go_wp2_with fail
   go_ret
   exact ⟨rfl,HWS.out _ HW.out HP.out.lt,HP.out,HB.out⟩
theorem eqEntry_any (i:ByteArray) (n s:Int) (w:World):Calls Tryz.prog 81 #[.agg #[.string i,.int .i64 n,.int .i64 s],.agg #[.string i,.int .i64 n,.int .i64 s]] w fun e w'=>e=.returned (.bool true)∧Below w.heap.size w w':=by
 go_enter Tryz.func81,Tryz.ntmps81
 go_wp2
 go_ret
 refine ⟨rfl,?_⟩
 repeat' first|exact Below.refl _ _|apply Below.setCell|apply Below.alloc
 all_goals first|omega|(simp;done)|(simp;omega)
set_option maxHeartbeats 4000000 in
theorem eqEns_any (ao bo:Option Addr) (cap cap':Nat) (es:List N) (w:World) (hlen:es.length≤1048576) (hI:Ens ao es w) (hJ:Ens bo es w) :
 Calls Tryz.prog 33 #[.slice ao es.length cap,.slice bo es.length cap'] w fun e w'=>e=.returned (.bool true)∧Below w.heap.size w w':=by
 have HI:=hid_intro hI
 have HJ:=hid_intro hJ
 obtain ⟨len,hl⟩:∃len,len=es.length:=⟨_,rfl⟩
 rw [←hl] at hlen ⊢
 have HL:=hid_intro hl
 clear hI hJ hl
 go_enter Tryz.func33,Tryz.ntmps33
 go_wp2_with fail
 go_loopw [5] (fun z wr=>∃k:Nat,k≤len∧z=.int .i64 k∧Hid (Below w.heap.size w wr)) (fun z _=>len-(intOf z).toNat)
 case atStart=>exact ⟨0,by omega,rfl,hid_intro (Below.refl _ _)⟩
 case round =>
  obtain ⟨k,hk,rfl,HW⟩:=hrel
  by_cases hlt:k<len
  ·have hlt2:(k:Int)<(len:Int):=by omega
   obtain ⟨b,off,rfl,_,c0,c1,c2⟩:=(HI.out.below HW.out).at k (by have:=HL.out;omega)
   obtain ⟨b',off',rfl,_,e0,e1,e2⟩:=(HJ.out.below HW.out).at k (by have:=HL.out;omega)
   generalize es.getD k N.zero=X at *
   obtain ⟨xi,xn,xs⟩:=X
   have HC:=hid_intro (fun w=>eqEntry_any xi xn xs w)
   go_wp2_with fail
   go_region_with (go_at_call 81;refine (HC.out _).mono ?_;rintro e w1 ⟨rfl,hb⟩)
   all_goals (
    have HB1:=hid_intro (HW.out.drew.trans (hb.mono HW.out.drew.size))
    clear hb c0 c1 c2 e0 e1 e2
    go_wp2_with fail
    go_roundw
    case rel=>exact ⟨k+1,by omega,by go_num,HB1⟩
    case measure=>simp [intOf];omega)
  ·have hlt2:¬(k:Int)<(len:Int):=by omega
   go_wp2_with fail
   go_ret
   exact ⟨rfl,HW.out⟩
end SeenR
end Go.Proofs.YtmalfhhkjdkadaaGreatDoor
namespace Go.Proofs.YtmalfhhkjdkadaaGreatDoor
open Go.RowKit
set_option linter.unusedVariables false
namespace CatR
open Op (bytesLess)
theorem bl_irrefl:∀x:List UInt8,bytesLess x x=false
 | []=>rfl
 | a::x=>by
  rw [bytesLess,bl_irrefl x]
  simp
theorem bl_trans:∀{x y z:List UInt8},bytesLess x y=true→bytesLess y z=true→bytesLess x z=true
 | _,[],_,h,_=>by simp [bytesLess] at h
 | _,_::_,[],_,h=>by simp [bytesLess] at h
 | [],_::_,_::_,_,_=>rfl
 | a::x,b::y,c::z,h1,h2=>by
  rw [bytesLess] at *
  simp only [Bool.or_eq_true,Bool.and_eq_true,decide_eq_true_eq,beq_iff_eq] at *
  rcases h1 with h1|⟨rfl,h1⟩
  ·rcases h2 with h2|⟨rfl,h2⟩
   ·exact .inl (UInt8.lt_trans h1 h2)
   ·exact .inl h1
  ·rcases h2 with h2|⟨rfl,h2⟩
   ·exact .inl h2
   ·exact .inr ⟨rfl,bl_trans h1 h2⟩
theorem bl_total:∀{x y:List UInt8},bytesLess x y=false→bytesLess y x=false→x=y
 | [],[],_,_=>rfl
 | [],_::_,h,_=>by simp [bytesLess] at h
 | _::_,[],_,h=>by simp [bytesLess] at h
 | a::x,b::y,h1,h2=>by
  rw [bytesLess] at *
  simp only [Bool.or_eq_false_iff,Bool.and_eq_false_iff,decide_eq_false_iff_not,beq_eq_false_iff_ne] at *
  have e:a=b:=by
   have p1:=h1.1
   have p2:=h2.1
   rw [UInt8.lt_iff_toNat_lt] at p1 p2
   exact UInt8.toNat.inj (by omega)
  subst e
  rw [bl_total (h1.2.resolve_left (fun h=>h rfl)) (h2.2.resolve_left (fun h=>h rfl))]
def lt (a b:ByteArray):Bool:=bytesLess a.toList b.toList
theorem toList_inj {a b:ByteArray} (h:a.toList=b.toList):a=b:=by
 rw [ByteArray.toList_eq,ByteArray.toList_eq] at h
 exact ByteArray.ext (Array.ext' h)
theorem lt_irrefl (a:ByteArray):lt a a=false:=bl_irrefl _
theorem lt_trans {a b c:ByteArray} (h1:lt a b=true) (h2:lt b c=true):lt a c=true:=bl_trans h1 h2
theorem lt_total {a b:ByteArray} (h1:lt a b=false) (h2:lt b a=false):a=b:=toList_inj (bl_total h1 h2)
theorem lt_asymm {a b:ByteArray} (h:lt a b=true):lt b a=false:=by
 cases h2:lt b a
 ·rfl
 ·have:=lt_trans h h2
  rw [lt_irrefl] at this
  cases this
theorem lt_empty {b:ByteArray} (h:1≤b.size):lt ⟨#[]⟩ b=true:=by
 unfold lt
 have h1:(⟨#[]⟩:ByteArray).toList=[]:=by rw [ByteArray.toList_eq]
 rw [h1]
 cases hb:b.toList with
 | nil =>
  rw [ByteArray.toList_eq] at hb
  have:b.data.toList.length=0:=by rw [hb];rfl
  have h2:b.data.toList.length=b.size:=rfl
  omega
 | cons x l=>rfl
def mN (ms:List Me) (i:Nat):ByteArray:=(ms.getD i Me.zero).n
def cA (cs:List Cr) (i:Nat):ByteArray:=(cs.getD i Cr.zero).a
def cM (cs:List Cr) (i:Nat):Int:=(cs.getD i Cr.zero).m
def MOk (ms:List Me) (k:Nat):Prop:=∀i,i<k→MRight (ms.getD i Me.zero)∧(0<i→lt (mN ms (i-1)) (mN ms i)=true)
def COk (cs:List Cr) (k:Nat):Prop:=∀i,i<k→(NameR.nameB (cA cs i)=true∧0≤cM cs i∧cM cs i≤1000000000000)∧(0<i→lt (cA cs (i-1)) (cA cs i)=true)
def MsRight (ms:List Me):Prop:=ms.length≤6∧MOk ms ms.length
def CsRight (cs:List Cr):Prop:=cs.length≤6∧COk cs cs.length
theorem MOk.rise {ms:List Me} {k:Nat} (h:MOk ms k):∀j,j<k→∀i,i<j→lt (mN ms i) (mN ms j)=true
 | 0,_,i,hi=>absurd hi (by omega)
 | j+1,hj,i,hi=>by
  have h1:lt (mN ms j) (mN ms (j+1))=true:=(h (j+1) hj).2 (by omega)
  by_cases e:i=j
  ·subst e;exact h1
  ·exact lt_trans (MOk.rise h j (by omega) i (by omega)) h1
theorem MOk.apart {ms:List Me} {k:Nat} (h:MOk ms k) {i j:Nat} (hi:i<k) (hj:j<k) (e:mN ms i=mN ms j):i=j:=by
 rcases Nat.lt_trichotomy i j with h1|h1|h1
 ·have:=h.rise j hj i h1
  rw [e,lt_irrefl] at this
  cases this
 ·exact h1
 ·have:=h.rise i hi j h1
  rw [e,lt_irrefl] at this
  cases this
theorem MOk.zero (ms:List Me):MOk ms 0:=fun i h=>absurd h (by omega)
theorem COk.zero (cs:List Cr):COk cs 0:=fun i h=>absurd h (by omega)
theorem MOk.more {ms:List Me} {k:Nat} (h:MOk ms k) (h1:MRight (ms.getD k Me.zero)) (h2:0<k→lt (mN ms (k-1)) (mN ms k)=true):MOk ms (k+1):=by
 intro i hi
 by_cases e:i=k
 ·subst e;exact ⟨h1,h2⟩
 ·exact h i (by omega)
theorem COk.more {cs:List Cr} {k:Nat} (h:COk cs k) (h1:NameR.nameB (cA cs k)=true) (h3:0≤cM cs k∧cM cs k≤1000000000000) (h2:0<k→lt (cA cs (k-1)) (cA cs k)=true):COk cs (k+1):=by
 intro i hi
 by_cases e:i=k
 ·subst e;exact ⟨⟨h1,h3⟩,h2⟩
 ·exact h i (by omega)
def MOkDec (ms:List Me) (k:Nat):Decidable (MOk ms k) :=
 haveI:=MRightDec
 inferInstanceAs (Decidable (∀i,i<k→MRight (ms.getD i Me.zero)∧(0<i→lt (mN ms (i-1)) (mN ms i)=true)))
def COkDec (cs:List Cr) (k:Nat):Decidable (COk cs k):=inferInstanceAs (Decidable (∀i,i<k→(NameR.nameB (cA cs i)=true∧0≤cM cs i∧cM cs i≤1000000000000)∧(0<i→lt (cA cs (i-1)) (cA cs i)=true)))
def MsRightDec (ms:List Me):Decidable (MsRight ms) :=
 haveI:=MOkDec ms ms.length
 inferInstanceAs (Decidable (ms.length≤6∧MOk ms ms.length))
def CsRightDec (cs:List Cr):Decidable (CsRight cs) :=
 haveI:=COkDec cs cs.length
 inferInstanceAs (Decidable (cs.length≤6∧COk cs cs.length))
def msB (ms:List Me):Bool:=@decide (MsRight ms) (MsRightDec ms)
def csB (cs:List Cr):Bool:=@decide (CsRight cs) (CsRightDec cs)
def caB (c:Ca):Bool:=msB c.ms&&csB c.cs
theorem msB_no {ms:List Me} (h:¬MsRight ms):msB ms=false:=by unfold msB;exact @decide_eq_false _ (MsRightDec ms) h
theorem msB_yes {ms:List Me} (h:MsRight ms):msB ms=true:=by unfold msB;exact @decide_eq_true _ (MsRightDec ms) h
theorem msB_iff {ms:List Me}:msB ms=true↔MsRight ms:=by unfold msB;exact @decide_eq_true_iff _ (MsRightDec ms)
theorem csB_no {cs:List Cr} (h:¬CsRight cs):csB cs=false:=by unfold csB;exact @decide_eq_false _ (CsRightDec cs) h
theorem csB_yes {cs:List Cr} (h:CsRight cs):csB cs=true:=by unfold csB;exact @decide_eq_true _ (CsRightDec cs) h
theorem csB_iff {cs:List Cr}:csB cs=true↔CsRight cs:=by unfold csB;exact @decide_eq_true_iff _ (CsRightDec cs)
theorem mB_iff {m:Me}:mB m=true↔MRight m:=by unfold mB;exact @decide_eq_true_iff _ (MRightDec m)
def RV (v:Value):Option (DataW Value × List MemPlace):=some (.held v,[])
def kS (n:ByteArray):Lit:=.string n.data.toList
theorem kS_inj {a b:ByteArray} (h:kS a=kS b):a=b:=by
 unfold kS at h
 simp only [Lit.string.injEq] at h
 exact ByteArray.ext (Array.ext' h)
theorem kS_key (n:ByteArray):WideAt.IsKeyLit (kS n):=by
 unfold kS
 first|trivial|exact rfl|(simp [WideAt.IsKeyLit])
def mapD (ms:List Me) (V:Nat→Value):Nat→DataW Value
 | 0=>.map []
 | k+1=>(mapD ms V k).put (kS (mN ms k)) (.held (V k))
theorem mapD_is (ms:List Me) (V:Nat→Value):∀k,Maps.IsMap (mapD ms V k)
 | 0=>Maps.isMap_empty
 | k+1=>(mapD_is ms V k).put _ _
theorem has_mapD (ms:List Me) (V:Nat→Value) (n:ByteArray):∀k,Maps.has (mapD ms V k) (kS n)=true↔∃i,i<k∧mN ms i=n
 | 0=>by
  refine ⟨fun h=>?_,fun ⟨i,hi,_⟩=>absurd hi (by omega)⟩
  rw [mapD,Maps.has_eq] at h
  simp at h
 | k+1=>by
  rw [mapD]
  by_cases e:n=mN ms k
  ·subst e
   rw [Maps.has_put_same (mapD_is ms V k) (kS_key _)]
   exact ⟨fun _=>⟨k,by omega,rfl⟩,fun _=>rfl⟩
  ·rw [Maps.has_put_other (fun h=>e (kS_inj h)),has_mapD ms V n k]
   constructor
   ·rintro ⟨i,hi,h⟩;exact ⟨i,by omega,h⟩
   ·rintro ⟨i,hi,h⟩
    refine ⟨i,?_,h⟩
    rcases Nat.lt_or_ge i k with h1|h1
    ·exact h1
    ·obtain rfl:i=k:=by omega
     exact absurd h.symm e
theorem at_mapD (ms:List Me) (V:Nat→Value) (z:DataW Value):∀k,(∀i j,i<k→j<k→mN ms i=mN ms j→i=j)→∀i,i<k→(mapD ms V k).atKey (kS (mN ms i)) z=.held (V i)
 | 0,_,i,hi=>absurd hi (by omega)
 | k+1,hd,i,hi=>by
  rw [mapD]
  by_cases e:i=k
  ·subst e
   exact Maps.atKey_put_same (mapD_is ms V i) (kS_key _) _ _
  ·rw [Maps.atKey_put_other (fun h=>e (hd i k hi (by omega) (kS_inj h)))]
   exact at_mapD ms V z k (fun i j hi hj=>hd i j (by omega) (by omega)) i (by omega)
theorem at_mapD_some (ms:List Me) (V:Nat→Value) (n:ByteArray):∀k,(∃i,i<k∧mN ms i=n)→∃j,j<k∧∀z,(mapD ms V k).atKey (kS n) z=.held (V j)
 | 0,⟨i,hi,_⟩=>absurd hi (by omega)
 | k+1,h=>by
  by_cases e:n=mN ms k
  ·subst e
   exact ⟨k,by omega,fun z=>by rw [mapD];exact Maps.atKey_put_same (mapD_is ms V k) (kS_key _) _ _⟩
  ·obtain ⟨i,hi,he⟩:=h
   obtain ⟨j,hj,h2⟩:=at_mapD_some ms V n k ⟨i,by
    rcases Nat.lt_or_ge i k with h1|h1
    ·exact h1
    ·obtain rfl:i=k:=by omega
     exact absurd he.symm e,he⟩
   exact ⟨j,by omega,fun z=>by rw [mapD,Maps.atKey_put_other (fun h=>e (kS_inj h))];exact h2 z⟩
def delD (ms:List Me) (D:DataW Value):Nat→DataW Value
 | 0=>D
 | k+1=>(delD ms D k).del (kS (mN ms k))
theorem has_delD (ms:List Me) (D:DataW Value) (n:ByteArray):∀k,Maps.has (delD ms D k) (kS n)=true↔(Maps.has D (kS n)=true∧∀i,i<k→mN ms i≠n)
 | 0=>⟨fun h=>⟨h,fun i hi=>absurd hi (by omega)⟩,fun h=>h.1⟩
 | k+1=>by
  rw [delD]
  by_cases e:n=mN ms k
  ·subst e
   rw [Maps.has_del_same]
   exact ⟨fun h=>(by cases h),fun h=>absurd rfl (h.2 k (by omega))⟩
  ·rw [Maps.has_del_other (fun h=>e (kS_inj h)),has_delD ms D n k]
   constructor
   ·rintro ⟨h1,h2⟩
    refine ⟨h1,fun i hi h=>?_⟩
    rcases Nat.lt_or_ge i k with h3|h3
    ·exact h2 i h3 h
    ·obtain rfl:i=k:=by omega
     exact e h.symm
   ·rintro ⟨h1,h2⟩;exact ⟨h1,fun i hi=>h2 i (by omega)⟩
theorem at_delD (ms:List Me) (D:DataW Value) (n:ByteArray) (z:DataW Value):∀k,(∀i,i<k→mN ms i≠n)→(delD ms D k).atKey (kS n) z=D.atKey (kS n) z
 | 0,_=>rfl
 | k+1,h=>by
  rw [delD,Maps.atKey_del_other (fun e=>h k (by omega) (kS_inj e).symm)]
  exact at_delD ms D n z k (fun i hi=>h i (by omega))
theorem ms_alike {ms:List Me} {k i:Nat} (hk:k<ms.length) (hi:i<k) (e:mN ms i=mN ms k):msB ms=false:=msB_no (fun h=>by
 have:=h.2.apart (by omega) hk e
 omega)
theorem ms_falls {ms:List Me} {k:Nat} (hk:k<ms.length) (h0:0<k) (h:lt (mN ms k) (mN ms (k-1))=true):msB ms=false:=msB_no (fun hr=>by
 have:=lt_asymm ((hr.2 k hk).2 h0)
 rw [h] at this
 cases this)
theorem ms_flat {ms:List Me} {k:Nat} (hk:k<ms.length) (h0:0<k) (h:lt (mN ms (k-1)) (mN ms k)=false):msB ms=false:=msB_no (fun hr=>by
 have:=(hr.2 k hk).2 h0
 rw [h] at this
 cases this)
theorem ms_wrong {ms:List Me} {k:Nat} (hk:k<ms.length) (h:mB (ms.getD k Me.zero)=false):msB ms=false:=msB_no (fun hr=>by
 have:=mB_iff.2 (hr.2 k hk).1
 rw [h] at this
 cases this)
theorem ms_end {ms:List Me} (h6:ms.length≤6) (h:MOk ms ms.length):msB ms=true:=msB_yes ⟨h6,h⟩
theorem ms_many {ms:List Me} (h6:6<ms.length):msB ms=false:=msB_no (fun hr=>by have:=hr.1;omega)
theorem cs_many {cs:List Cr} (h6:6<cs.length):csB cs=false:=csB_no (fun hr=>by have:=hr.1;omega)
theorem cs_end {cs:List Cr} (h6:cs.length≤6) (h:COk cs cs.length):csB cs=true:=csB_yes ⟨h6,h⟩
theorem cs_name {cs:List Cr} {k:Nat} (hk:k<cs.length) (h:NameR.nameB (cA cs k)=false):csB cs=false:=csB_no (fun hr=>by
 have:=(hr.2 k hk).1.1
 rw [h] at this
 cases this)
theorem cs_micro {cs:List Cr} {k:Nat} (hk:k<cs.length) (h:¬(0≤cM cs k∧cM cs k≤1000000000000)):csB cs=false:=csB_no (fun hr=>h (hr.2 k hk).1.2)
theorem cs_flat {cs:List Cr} {k:Nat} (hk:k<cs.length) (h0:0<k) (h:lt (cA cs (k-1)) (cA cs k)=false):csB cs=false:=csB_no (fun hr=>by
 have:=(hr.2 k hk).2 h0
 rw [h] at this
 cases this)
end CatR
end Go.Proofs.YtmalfhhkjdkadaaGreatDoor
namespace Go.Proofs.YtmalfhhkjdkadaaGreatDoor
open Go.ChangeShapes Go.WideShapes Go.ChangeAt Go.RowKit
set_option linter.unusedVariables false
namespace CatR
def MesV (ao:Option Addr) (len:Nat) (ms:List Me) (V:Nat→Value) (w:World):Prop:=len=0∨∃b off,ao=some ⟨b,off,none⟩∧b<w.heap.size∧∀j,j<len→∃ta tc,V j=.agg #[.string (mN ms j),.int .i64 (ms.getD j Me.zero).g,.bool (ms.getD j Me.zero).wh,.int .i64 (ms.getD j Me.zero).f,.int .i64 (ms.getD j Me.zero).l,.slice ta (ms.getD j Me.zero).ts.length tc]∧w.cell? ⟨b,off+j*6,none⟩=some (.string (mN ms j))∧w.cell? ⟨b,off+j*6+1,none⟩=some (.int .i64 (ms.getD j Me.zero).g)∧w.cell? ⟨b,off+j*6+2,none⟩=some (.bool (ms.getD j Me.zero).wh)∧w.cell? ⟨b,off+j*6+3,none⟩=some (.int .i64 (ms.getD j Me.zero).f)∧w.cell? ⟨b,off+j*6+4,none⟩=some (.int .i64 (ms.getD j Me.zero).l)∧w.cell? ⟨b,off+j*6+5,none⟩=some (.slice ta (ms.getD j Me.zero).ts.length tc)∧Tis ta (ms.getD j Me.zero).ts.length (ms.getD j Me.zero).ts w
theorem MesV.below {ao:Option Addr} {len:Nat} {ms:List Me} {V:Nat→Value} {w w':World} (h:MesV ao len ms V w) (hb:Below w.heap.size w w'):MesV ao len ms V w':=by
 rcases h with h|⟨b,off,rfl,hl,h⟩
 ·exact .inl h
 ·refine .inr ⟨b,off,rfl,by have:=hb.size;omega,fun j hj=>?_⟩
  obtain ⟨ta,tc,hv,h0,h1,h2,h3,h4,h5,h6⟩:=h j hj
  have f:=fun k=>hb.cell (p:=⟨b,k,none⟩) hl
  exact ⟨ta,tc,hv,(f _).trans h0,(f _).trans h1,(f _).trans h2,(f _).trans h3,(f _).trans h4,(f _).trans h5,h6.below hb⟩
theorem MesV.is {ao:Option Addr} {len:Nat} {ms:List Me} {V:Nat→Value} {w:World} (h:MesV ao len ms V w) (j:Nat) (hj:j<len):IsMe (V j) (ms.getD j Me.zero) w:=by
 rcases h with h|⟨b,off,rfl,hl,h⟩
 ·omega
 ·obtain ⟨ta,tc,hv,_,_,_,_,_,_,h6⟩:=h j hj
  exact ⟨ta,tc,hv,h6⟩
theorem mes_v {ao:Option Addr} {len:Nat} {ms:List Me} {w:World} (h:Mes ao len ms w):∃V,MesV ao len ms V w:=by
 rcases h.2 with h|⟨b,off,rfl,hl,h⟩
 ·exact ⟨fun _=>undef,.inl h⟩
 ·refine ⟨fun j=>if hj:j<len then .agg #[.string (mN ms j),.int .i64 (ms.getD j Me.zero).g,.bool (ms.getD j Me.zero).wh,.int .i64 (ms.getD j Me.zero).f,.int .i64 (ms.getD j Me.zero).l,.slice (Classical.choose (h j hj)) (ms.getD j Me.zero).ts.length (Classical.choose (Classical.choose_spec (h j hj)))] else undef,.inr ⟨b,off,rfl,hl,fun j hj=>?_⟩⟩
  obtain ⟨h0,h1,h2,h3,h4,h5,h6⟩:=Classical.choose_spec (Classical.choose_spec (h j hj))
  exact ⟨_,_,by simp only [hj,dif_pos],h0,h1,h2,h3,h4,h5,h6⟩
theorem keyedS:Maps.Keyed Tryz.prog 9:=Maps.string_keyed Tryz.underlying9
set_option maxRecDepth 100000 in
set_option maxHeartbeats 4000000 in
theorem byName_any (ao:Option Addr) (len cap:Nat) (ms:List Me) (V:Nat→Value) (w:World) (hlen:len≤6) (hn:∀i,i<len→(mN ms i).size≤1048576) (hI:MesV ao len ms V w) :
 Calls Tryz.prog 152 #[.slice ao len cap] w fun e w'=>e=.returned (.map (some w.heap.size))∧w'.ownsMap Tryz.prog 9 RV w.heap.size len (mapD ms V len)∧Below w.heap.size w w':=by
 have HI:=hid_intro hI
 have HN:=hid_intro hn
 clear hI hn
 have HO0:Hid ((w.alloc (.map #[] 0)).ownsMap Tryz.prog 9 RV w.heap.size 0 (mapD ms V 0)):=hid_intro (World.ownsMap_made w Tryz.prog 9 RV)
 have HB0:Hid (Below w.heap.size w (w.alloc (.map #[] 0))):=hid_intro ((Below.refl _ _).alloc (Nat.le_refl _) _)
 have hmm:=@run_makeMap Tryz.prog
 go_enter Tryz.func152,Tryz.ntmps152
 go_wp2_with fail
 go_loopw [9] (fun z wr=>∃k:Nat,k≤len∧z=.int .i64 k∧Hid (Below w.heap.size w wr)∧Hid (wr.ownsMap Tryz.prog 9 RV w.heap.size k (mapD ms V k))) (fun z _=>len-(intOf z).toNat)
 case atStart=>exact ⟨0,by omega,rfl,HB0,HO0⟩
 case round =>
  obtain ⟨k,hk,rfl,HB,HO⟩:=hrel
  by_cases hlt:k<len
  ·have hlt2:(k:Int)<(len:Int):=by omega
   rcases HI.out.below HB.out with h|⟨b,off,rfl,hbl,h⟩
   ·omega
   obtain ⟨ta,tc,hv,c0,c1,c2,c3,c4,c5,_⟩:=h k hlt
   clear h
   have HK:=hid_intro (Go.WideMaps.keyOf_string_mk (P:=Tryz.prog) (k:=9) Tryz.underlying9 (s:=mN ms k) (Nat.le_trans (HN.out k hlt) (by unfold maxLen;omega)))
   have HV:Hid (RV (.agg #[.string (mN ms k),.int .i64 (ms.getD k Me.zero).g,.bool (ms.getD k Me.zero).wh,.int .i64 (ms.getD k Me.zero).f,.int .i64 (ms.getD k Me.zero).l,.slice ta (ms.getD k Me.zero).ts.length tc])=some (.held (V k),[])):=hid_intro (by rw [hv];rfl)
   have HD:Hid (mapD ms V (k+1)=(mapD ms V k).put (kS (mN ms k)) (.held (V k))):=rfl
   have HKE:Hid (kS (mN ms k)=.string (mN ms k).data.toList):=rfl
   have HAl:=hid_intro (fun o=>HB.out.alloc HB.out.size o)
   have HOl:=hid_intro (fun o=>HO.out.alloc o)
   generalize (mapD ms V k)=D0 at *
   generalize kS (mN ms k)=K0 at *
   generalize mN ms k=n at *
   generalize V k=X at *
   generalize (ms.getD k Me.zero).ts.length=tl at *
   generalize (ms.getD k Me.zero).g=g at *
   generalize (ms.getD k Me.zero).wh=wh at *
   generalize (ms.getD k Me.zero).f=f at *
   generalize (ms.getD k Me.zero).l=l at *
   clear hv
   go_wp2_with (at_mapUpdate;refine wpList_mapUpdate_own _ rfl _ _ _ 215 rfl 9 119 keyedS Tryz.underlying215 RV w.heap.size k D0 rfl (HOl.out _) (by unfold maxLen;omega) _ _ _ rfl rfl HK.out (.held X) [] HV.out ?_;intro w1 hown1 hgrow1)
   have HO1:Hid (w1.ownsMap Tryz.prog 9 RV w.heap.size (k+1) (mapD ms V (k+1))):=hid_intro (by rw [HD.out,HKE.out];exact hown1)
   have HB1:Hid (Below w.heap.size w w1):=hid_intro ((HAl.out _).grown hgrow1 (HAl.out _).size (fun k e=>by cases e;exact Nat.le_refl _))
   clear hown1 hgrow1
   go_wp2_with fail
   go_roundw
   case rel=>exact ⟨k+1,by omega,by go_num,HB1,hid_intro HO1.out⟩
   case measure=>simp [intOf];omega
  ·obtain rfl:k=len:=by omega
   go_wp2_with fail
   go_ret
   exact ⟨rfl,HO.out,HB.out⟩
theorem gtr {w w1 w2:World} {g:Option Nat} (h1:w.grownBy w1 g) (h2:w1.grownBy w2 g):w.grownBy w2 g :=
 ⟨h2.os.trans h1.os,h2.tape.trans h1.tape,h2.output.trans h1.output,Nat.le_trans h1.size h2.size,fun k hk hne=>(h2.block k (by have:=h1.size;omega) hne).trans (h1.block k hk hne)⟩
theorem gnew {w wx:World} {g:Option Nat} (h:w.grownBy wx g) (o:Nat) (v:Value):w.grownBy (wx.setCell ⟨w.heap.size,o,none⟩ v) g:=by
 refine ⟨h.os,h.tape,h.output,by have:=h.size;simpa using this,fun k hk hne=>?_⟩
 have e:(wx.setCell ⟨w.heap.size,o,none⟩ v).heap[k]? = wx.heap[k]?:=by
  simp only [World.setCell]
  rw [Array.getElem?_modify,if_neg (by omega)]
 exact e.trans (h.block k hk hne)
def Laid (w:World):Prop:=0<w.heap.size∧∃a:Addr,w.cell? ⟨0,0,none⟩=some (.iface 322 (.pointer (some a)))
theorem Laid.below {w w':World} (h:Laid w) (hb:Below w.heap.size w w'):Laid w':=by
 obtain ⟨h1,a,h2⟩:=h
 exact ⟨by have:=hb.size;omega,a,(hb.cell (p:=⟨_,0,none⟩) h1).trans h2⟩
theorem zeroM (w:World):(zeroValue 119).run Tryz.prog w=.ok (.agg #[.string ⟨#[]⟩,.int .i64 0,.bool false,.int .i64 0,.int .i64 0,.slice none 0 0]) w:=by kernel_rfl
set_option maxRecDepth 100000 in
set_option maxHeartbeats 4000000 in
theorem take_has (b N:Nat) (D:DataW Value) (n:ByteArray) (x0:ByteArray) (x1:Int) (x2:Bool) (x3 x4:Int) (x5:Option Addr) (x6 x7:Nat) (w:World) (hn:n.size≤1048576) (hO:w.ownsMap Tryz.prog 9 RV b N D) (hh:Maps.has D (kS n)=true) (hx:∀z,D.atKey (kS n) z=.held (.agg #[.string x0,.int .i64 x1,.bool x2,.int .i64 x3,.int .i64 x4,.slice x5 x6 x7])) :
 Calls Tryz.prog 153 #[.map (some b),.string n] w fun e w'=>e=.returned (.tuple #[.agg #[.string x0,.int .i64 x1,.bool x2,.int .i64 x3,.int .i64 x4,.slice x5 x6 x7],.nilIface])∧w'.ownsMap Tryz.prog 9 RV b N (D.del (kS n))∧w.grownBy w' (some b):=by
 have HK:=hid_intro (Go.WideMaps.keyOf_string_mk (P:=Tryz.prog) (k:=9) Tryz.underlying9 (s:=n) (Nat.le_trans hn (by unfold maxLen;omega)))
 have HH:=hid_intro hh
 have HX:=hid_intro hx
 have HO:=hid_intro hO
 have hlt:=hO.lt
 clear hh hx hO
 have e:(.string n.data.toList:Lit)=kS n:=rfl
 rw [e] at HK
 generalize kS n=K0 at *
 clear e
 obtain ⟨W,hW⟩:∃W,W=w.alloc (.cells #[.string ⟨#[]⟩,.int .i64 0,.bool false,.int .i64 0,.int .i64 0,.slice none 0 0] 119):=⟨_,rfl⟩
 obtain ⟨v,ps,hrun,hv⟩:=(HO.out.alloc (.cells #[.string ⟨#[]⟩,.int .i64 0,.bool false,.int .i64 0,.int .i64 0,.slice none 0 0] 119)).look_ok keyedS Tryz.underlying215 (zeroM _) (zd:=.held (.agg #[.string ⟨#[]⟩,.int .i64 0,.bool false,.int .i64 0,.int .i64 0,.slice none 0 0])) (zp:=[]) rfl HK.out
 obtain rfl:v=.agg #[.string x0,.int .i64 x1,.bool x2,.int .i64 x3,.int .i64 x4,.slice x5 x6 x7]:=by
  rw [HX.out] at hv
  simp [RV] at hv
  exact hv.1
 rw [HH.out] at hrun
 clear hv hW W
 have HOl:=hid_intro (fun (o1 o2:Obj)=>(HO.out.alloc o1).alloc o2)
 have HGl:=hid_intro (fun (o1 o2:Obj)=>gtr (World.grownBy_alloc w o1 (some b)) (World.grownBy_alloc (w.alloc o1) o2 (some b)))
 go_enter Tryz.func153,Tryz.ntmps153
 go_wp2_with (at_delete;refine wpList_delete_own _ rfl _ _ 215 9 rfl 119 keyedS Tryz.underlying215 RV b N D rfl (HOl.out _ _) _ _ rfl HK.out ?_;intro w1 hown1 hturn1;have hgr:=hturn1.grown;have hsz:w.heap.size+2≤w1.heap.size:=(by have:=hgr.size;simp at this;omega);have E1:=fun o=>World.cell?_of_block (a:=⟨w.heap.size+1,o,none⟩) (hgr.block (w.heap.size+1) (by simp) (by simp;omega));have E2:=fun o=>World.cell?_of_block (a:=⟨w.heap.size,o,none⟩) (hgr.block w.heap.size (by simp;omega) (by simp;omega));have E3:=fun o=>World.frozen?_of_block (a:=⟨w.heap.size,o,none⟩) (hgr.block w.heap.size (by simp;omega) (by simp;omega));have m0:w1.cell? ⟨w.heap.size+1,0,none⟩=some (.string x0):=(E1 0).trans (by simp [go_sem]);have m1:w1.cell? ⟨w.heap.size+1,1,none⟩=some (.int .i64 x1):=(E1 1).trans (by simp [go_sem]);have m2:w1.cell? ⟨w.heap.size+1,2,none⟩=some (.bool x2):=(E1 2).trans (by simp [go_sem]);have m3:w1.cell? ⟨w.heap.size+1,3,none⟩=some (.int .i64 x3):=(E1 3).trans (by simp [go_sem]);have m4:w1.cell? ⟨w.heap.size+1,4,none⟩=some (.int .i64 x4):=(E1 4).trans (by simp [go_sem]);have m5:w1.cell? ⟨w.heap.size+1,5,none⟩=some (.slice x5 x6 x7):=(E1 5).trans (by simp [go_sem]);have r0:w1.cell? ⟨w.heap.size,0,none⟩=some (.string ⟨#[]⟩):=(E2 0).trans (by simp [go_sem]);have f0:w1.frozen? ⟨w.heap.size,0,none⟩=false:=(E3 0).trans (by simp [go_sem]);have r1:w1.cell? ⟨w.heap.size,1,none⟩=some (.int .i64 0):=(E2 1).trans (by simp [go_sem]);have f1:w1.frozen? ⟨w.heap.size,1,none⟩=false:=(E3 1).trans (by simp [go_sem]);have r2:w1.cell? ⟨w.heap.size,2,none⟩=some (.bool false):=(E2 2).trans (by simp [go_sem]);have f2:w1.frozen? ⟨w.heap.size,2,none⟩=false:=(E3 2).trans (by simp [go_sem]);have r3:w1.cell? ⟨w.heap.size,3,none⟩=some (.int .i64 0):=(E2 3).trans (by simp [go_sem]);have f3:w1.frozen? ⟨w.heap.size,3,none⟩=false:=(E3 3).trans (by simp [go_sem]);have r4:w1.cell? ⟨w.heap.size,4,none⟩=some (.int .i64 0):=(E2 4).trans (by simp [go_sem]);have f4:w1.frozen? ⟨w.heap.size,4,none⟩=false:=(E3 4).trans (by simp [go_sem]);have r5:w1.cell? ⟨w.heap.size,5,none⟩=some (.slice none 0 0):=(E2 5).trans (by simp [go_sem]);have f5:w1.frozen? ⟨w.heap.size,5,none⟩=false:=(E3 5).trans (by simp [go_sem]);have HG1:=hid_intro (gtr (HGl.out _ _) hgr);have HO1:=hid_intro hown1;clear E1 E2 E3 hgr hturn1 hown1)
 refine bodyPost_ret (v:=.tuple #[.agg #[.string x0,.int .i64 x1,.bool x2,.int .i64 x3,.int .i64 x4,.slice x5 x6 x7],.nilIface]) (by simp [results,Tryz.results153,go_sem,r0,r1,r2,r3,r4,r5]) rfl ⟨rfl,?_,?_⟩
 ·exact (((((HO1.out.setCell (a:=⟨w.heap.size,0,none⟩) (show b≠w.heap.size by omega) _).setCell (a:=⟨w.heap.size,1,none⟩) (show b≠w.heap.size by omega) _).setCell (a:=⟨w.heap.size,2,none⟩) (show b≠w.heap.size by omega) _).setCell (a:=⟨w.heap.size,3,none⟩) (show b≠w.heap.size by omega) _).setCell (a:=⟨w.heap.size,4,none⟩) (show b≠w.heap.size by omega) _).setCell (a:=⟨w.heap.size,5,none⟩) (show b≠w.heap.size by omega) _
 ·exact gnew (gnew (gnew (gnew (gnew (gnew HG1.out _ _) _ _) _ _) _ _) _ _) _ _
set_option maxRecDepth 100000 in
set_option maxHeartbeats 4000000 in
theorem take_no (b N:Nat) (D:DataW Value) (n:ByteArray) (w:World) (hn:n.size≤1048576) (hO:w.ownsMap Tryz.prog 9 RV b N D) (hh:Maps.has D (kS n)=false) (a0:Addr) (hl:0<w.heap.size) (ha:w.cell? ⟨0,0,none⟩=some (.iface 322 (.pointer (some a0)))) :
 Calls Tryz.prog 153 #[.map (some b),.string n] w fun e w'=>e=.returned (.tuple #[.agg #[.string ⟨#[]⟩,.int .i64 0,.bool false,.int .i64 0,.int .i64 0,.slice none 0 0],.iface 322 (.pointer (some a0))])∧Below w.heap.size w w':=by
 have HK:=hid_intro (Go.WideMaps.keyOf_string_mk (P:=Tryz.prog) (k:=9) Tryz.underlying9 (s:=n) (Nat.le_trans hn (by unfold maxLen;omega)))
 have HH:=hid_intro hh
 have HO:=hid_intro hO
 have hlt:=hO.lt
 clear hh hO
 have e:(.string n.data.toList:Lit)=kS n:=rfl
 rw [e] at HK
 generalize kS n=K0 at *
 clear e
 obtain ⟨v,ps,hrun,hv⟩:=(HO.out.alloc (.cells #[.string ⟨#[]⟩,.int .i64 0,.bool false,.int .i64 0,.int .i64 0,.slice none 0 0] 119)).look_ok keyedS Tryz.underlying215 (zeroM _) (zd:=.held (.agg #[.string ⟨#[]⟩,.int .i64 0,.bool false,.int .i64 0,.int .i64 0,.slice none 0 0])) (zp:=[]) rfl HK.out
 obtain rfl:v=.agg #[.string ⟨#[]⟩,.int .i64 0,.bool false,.int .i64 0,.int .i64 0,.slice none 0 0]:=by
  rw [Maps.atKey_of_not_has HH.out] at hv
  simp [RV] at hv
  exact hv.1
 rw [HH.out] at hrun
 clear hv
 go_enter Tryz.func153,Tryz.ntmps153
 go_wp2_with fail
 go_region
 all_goals try go_wp2
 refine bodyPost_ret (v:=.tuple #[.agg #[.string ⟨#[]⟩,.int .i64 0,.bool false,.int .i64 0,.int .i64 0,.slice none 0 0],.iface 322 (.pointer (some a0))]) (by simp [results,Tryz.results153,go_sem]) rfl ⟨rfl,?_⟩
 repeat' first|exact Below.refl _ _|apply Below.setCell|apply Below.alloc|apply Below.drew
 all_goals first|omega|(simp;done)|(simp;omega)
end CatR
namespace CatR
theorem five (b1 b2 b3 b4 b5:Bool):(b1=false)∨(b1=true∧b2=false)∨(b1=true∧b2=true∧b3=false)∨(b1=true∧b2=true∧b3=true∧b4=false)∨(b1=true∧b2=true∧b3=true∧b4=true):=by
 cases b1<;>cases b2<;>cases b3<;>cases b4<;>simp
abbrev meV (n:ByteArray) (g:Int) (wh:Bool) (f l:Int) (ta:Option Addr) (tl tc:Nat):Value:=.agg #[.string n,.int .i64 g,.bool wh,.int .i64 f,.int .i64 l,.slice ta tl tc]
set_option maxRecDepth 100000 in
set_option maxHeartbeats 4000000 in
theorem impl_meter (v:Value) (m:Me) (w:World) (hn:m.n.size≤1048576) (hl:m.ts.length≤1048576) (hM:IsMe v m w) :
 Calls Tryz.prog 155 #[v] w fun e w'=>e=.returned (.bool (mB m))∧Below w.heap.size w w':=by
 obtain ⟨ta,tc,rfl,hT⟩:=hM
 rw [mB_eq]
 obtain ⟨n,g,wh,f,l,ts⟩:=m
 simp only at *
 have H1:=hid_intro (fun w=>NameR.impl_any n w hn)
 have H2:=hid_intro (fun w=>within64 g 1 4 w)
 have H3:=hid_intro (fun w=>within64 f 0 1000000000 w)
 have H4:=hid_intro (fun w=>within64 l 0 1000000000000 w)
 have H5:Hid (∀W,Below w.heap.size w W→Calls Tryz.prog 188 #[.slice ta ts.length tc] W fun e w'=>e=.returned (.bool (tB ts))∧Below W.heap.size W w'):=hid_intro (fun W hW=>impl_tiers ta ts.length tc ts W hl (hT.below hW))
 have HB:Hid (Below w.heap.size w (w.alloc (.cells #[.string n,.int .i64 g,.bool wh,.int .i64 f,.int .i64 l,.slice ta ts.length tc] 119))):=hid_intro ((Below.refl _ _).alloc (Nat.le_refl _) _)
 generalize NameR.nameB n=b1 at *
 generalize decide (1≤g∧g≤4)=b2 at *
 generalize decide (0≤f∧f≤1000000000)=b3 at *
 generalize decide (0≤l∧l≤1000000000000)=b4 at *
 generalize tB ts=b5 at *
 clear hT hn hl
 generalize ts.length=tl at *
 rcases five b1 b2 b3 b4 b5 with rfl|⟨rfl,rfl⟩|⟨rfl,rfl,rfl⟩|⟨rfl,rfl,rfl,rfl⟩|⟨rfl,rfl,rfl,rfl⟩
 all_goals
  go_enter Tryz.func155,Tryz.ntmps155
  go_wp2_with (first|(go_at_call 126;refine (H1.out _).mono ?_;rintro e w' ⟨rfl,rfl⟩)|(go_at_call_of 118 (Value.int .i64 g);refine (H2.out _).mono ?_;rintro e w' ⟨rfl,rfl⟩)|(go_at_call_of 118 (Value.int .i64 f);refine (H3.out _).mono ?_;rintro e w' ⟨rfl,rfl⟩)|(go_at_call_of 118 (Value.int .i64 l);refine (H4.out _).mono ?_;rintro e w' ⟨rfl,rfl⟩)|(go_at_call 188;refine (H5.out _ HB.out).mono ?_;rintro e w2 ⟨rfl,hb2⟩))
  go_ret
  exact ⟨ret_bool (by simp),by first|exact bel_alloc hb2|exact HB.out⟩
set_option maxRecDepth 100000 in
set_option maxHeartbeats 4000000 in
theorem spec_meter (v:Value) (m:Me) (w:World) (hn:m.n.size≤1048576) (hl:m.ts.length≤1048576) (hM:IsMe v m w) :
 Calls Tryz.prog 94 #[v] w fun e w'=>e=.returned (.bool (mB m))∧Below w.heap.size w w':=by
 obtain ⟨ta,tc,rfl,hT⟩:=hM
 rw [mB_eq]
 obtain ⟨n,g,wh,f,l,ts⟩:=m
 simp only at *
 have H1:=hid_intro (fun w=>NameR.spec_any n w hn)
 have H2:=hid_intro (fun w=>isS g 1 4 w)
 have H3:=hid_intro (fun w=>isS f 0 1000000000 w)
 have H4:=hid_intro (fun w=>isS l 0 1000000000000 w)
 have H5:Hid (∀W,Below w.heap.size w W→Calls Tryz.prog 140 #[.slice ta ts.length tc] W fun e w'=>e=.returned (.bool (tB ts))∧Below W.heap.size W w'):=hid_intro (fun W hW=>spec_tiers ta ts.length tc ts W hl (hT.below hW))
 have HB:Hid (Below w.heap.size w (w.alloc (.cells #[.string n,.int .i64 g,.bool wh,.int .i64 f,.int .i64 l,.slice ta ts.length tc] 119))):=hid_intro ((Below.refl _ _).alloc (Nat.le_refl _) _)
 generalize NameR.nameB n=b1 at *
 generalize decide (1≤g∧g≤4)=b2 at *
 generalize decide (0≤f∧f≤1000000000)=b3 at *
 generalize decide (0≤l∧l≤1000000000000)=b4 at *
 generalize tB ts=b5 at *
 clear hT hn hl
 generalize ts.length=tl at *
 rcases five b1 b2 b3 b4 b5 with rfl|⟨rfl,rfl⟩|⟨rfl,rfl,rfl⟩|⟨rfl,rfl,rfl,rfl⟩|⟨rfl,rfl,rfl,rfl⟩
 all_goals
  go_enter Tryz.func94,Tryz.ntmps94
  go_wp2_with (first|(go_at_call 20;refine (H1.out _).mono ?_;rintro e w' ⟨rfl,rfl⟩)|(go_at_call_of 95 (Value.int .i64 g);refine (H2.out _).mono ?_;rintro e w' ⟨rfl,rfl⟩)|(go_at_call_of 95 (Value.int .i64 f);refine (H3.out _).mono ?_;rintro e w' ⟨rfl,rfl⟩)|(go_at_call_of 95 (Value.int .i64 l);refine (H4.out _).mono ?_;rintro e w' ⟨rfl,rfl⟩)|(go_at_call 140;refine (H5.out _ HB.out).mono ?_;rintro e w2 ⟨rfl,hb2⟩))
  go_ret
  exact ⟨ret_bool (by simp),by first|exact bel_alloc hb2|exact HB.out⟩
end CatR
end Go.Proofs.YtmalfhhkjdkadaaGreatDoor
namespace Go.Proofs.YtmalfhhkjdkadaaGreatDoor
open Go.RowKit Go.Extern.Stop Go.Stop Go.Extern
set_option linter.unusedVariables false
namespace IsR
theorem typeOfS (v:Value) (w:World):(Extern.ReflectliteType.typeOf #[.iface 322 v]).run Tryz.prog w=.ok (.iface 286 (.agg #[.pointer (some ⟨4,322,none⟩)])) w:=by kernel_rfl
def compF:TypeId→Sem Value:=fun t=>do Rtype.noPackHeld "Comparable" t;pure (.bool (←typeInfo t).comparable)
theorem compS (w:World):((Extern.ReflectliteType.method compF) #[.agg #[.pointer (some ⟨4,322,none⟩)]]).run Tryz.prog w=.ok (.bool true) w:=by kernel_rfl
theorem methodComp (v:Value) (w:World):(Go.method 459 286 v "Comparable").run Tryz.prog w=.ok (277,v) w:=by kernel_rfl
theorem isComp:(Tryz.prog.info? 322).map (·.comparable)=some true:=by kernel_rfl
theorem isSize:(Tryz.prog.info? 347).map (·.size)=some 1:=by kernel_rfl
theorem is_same (a:Addr) (w:World) :
 Calls Tryz.prog 154 #[.iface 322 (.pointer (some a)),.iface 322 (.pointer (some a))] w fun e w'=>e=.returned (.bool true)∧w'=w:=by
 obtain ⟨i,hi,hcmp⟩:=Option.map_eq_some_iff.1 isComp
 obtain ⟨j,hj,hjs⟩:=Option.map_eq_some_iff.1 isSize
 have h8:=@run_callFunc_extern Tryz.prog 186 _ Extern.ReflectliteType.typeOf Tryz.func186 (by kernel_rfl) (by kernel_rfl) (by kernel_rfl) (by kernel_rfl)
 have h32:=@run_callFunc_extern Tryz.prog 277 _ (Extern.ReflectliteType.method compF) Tryz.func277 (by kernel_rfl) (by kernel_rfl) (by kernel_rfl) (by kernel_rfl)
 have tT:=typeOfS
 have cT:=compS
 have mR:=methodComp
 have heq:=run_eql_iface_ptr_same (P:=Tryz.prog) w a Tryz.underlying184 Tryz.underlying322 hi hcmp hj
 go_enter Tryz.func154,Tryz.ntmps154
 go_wp2
 refine wp_loop_rounds 1 ?_
 rw [rounds_succ]
 go_wp2
 go_ret
 exact ⟨rfl,rfl⟩
theorem is_nil (b:Addr) (w:World) :
 Calls Tryz.prog 154 #[.nilIface,.iface 322 (.pointer (some b))] w fun e w'=>e=.returned (.bool false)∧w'=w:=by
 have hn:=run_eql_iface_nil_left (P:=Tryz.prog) w 322 (.pointer (some b)) Tryz.underlying184
 go_enter Tryz.func154,Tryz.ntmps154
 go_wp2
 go_ret
 exact ⟨rfl,rfl⟩
end IsR
end Go.Proofs.YtmalfhhkjdkadaaGreatDoor
