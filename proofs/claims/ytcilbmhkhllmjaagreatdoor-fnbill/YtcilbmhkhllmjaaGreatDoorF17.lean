/-
  Lines that are the same, held against each other by the law. The condition: at most 1048576 of them.
  What lines come to: both sides say the same. The condition: at most 1048576 lines, whose Meters have at most 1048576 bytes.
  FnExactClamp: for every number and bounds the law's call returns true (the program's Clamp hands back what the model's does), and the input reads as it did. No condition.
  Drawn on both sides: what is left of lines behind a credit. The condition: at most 1048576 lines, whose Meters have at most 1048576 bytes.
-/
import Derived.BigQuiet
import Derived.Deep.QuietTactic
import Derived.Deep.RegionHeld3
import Derived.Test.YtcilbmhkhllmjaaGreatDoorF16
namespace Go.Proofs.YtcilbmhkhllmjaaGreatDoor
open Go.ChangeShapes Go.WideShapes Go.ChangeAt Go.RowKit
set_option linter.unusedVariables false
namespace LedR
open LinR RowG
open CatR (Blk Blk.new)
theorem ldrewN {B:Nat} {a w:World} (h:Below B a w) (n:Nat):Below B a (w.drewN n):=⟨h.os,h.tape,h.output,h.size,h.block⟩
set_option maxRecDepth 100000 in
set_option maxHeartbeats 4000000 in
theorem lwLi_any (ao bo:Option Addr) (c d:Nat) (L:List N) (w:World) (hl:L.length≤1048576) (hI:Lis ao L w) (hJ:Lis bo L w) :
 Calls Tryz.prog 23 #[.slice ao L.length c,.slice bo L.length d] w fun e w'=>e=.returned (.bool true)∧Below w.heap.size w w':=by
 have HI:=H_ hI
 have HJ:=H_ hJ
 obtain ⟨ln,hln⟩:∃ln,ln=L.length:=⟨_,rfl⟩
 rw [←hln] at hl ⊢
 have HL:=H_ hln
 clear hI hJ hln
 go_enter Tryz.func23,Tryz.ntmps23
 go_wp2_with fail
 go_loopw [5] (fun z wr=>∃k:Nat,k≤ln∧z=.int .i64 k∧Hid (Below w.heap.size w wr)) (fun z _=>ln-(intOf z).toNat)
 case atStart=>exact ⟨0,by omega,rfl,H_ (Below.refl _ _)⟩
 case round =>
  obtain ⟨k,hk,rfl,HB⟩:=hrel
  by_cases hlt:k<ln
  ·have hlt2:(k:Int)<(ln:Int):=by omega
   have hkl:k<L.length:=by have:=HL.out;omega
   obtain ⟨b,off,rfl,_,c0,c1⟩:=(HI.out.below HB.out).at k hkl
   obtain ⟨b',off',rfl,_,e0,e1⟩:=(HJ.out.below HB.out).at k hkl
   generalize L.getD k N.zero=X at *
   obtain ⟨xi,xn⟩:=X
   go_wp2_with fail
   try (go_quiet (fail);go_wp2_with fail)
   go_roundw
   case rel=>exact ⟨k+1,by omega,by go_num,by first|exact HB|exact H_ (ldrewN HB.out _)⟩
   case measure=>simp [intOf];omega
  ·have hlt2:¬(k:Int)<(ln:Int):=by omega
   go_wp2_with fail
   go_ret
   exact ⟨rfl,HB.out⟩
set_option maxRecDepth 100000 in
set_option maxHeartbeats 4000000 in
theorem lwBill_any (ao bo:Option Addr) (c d:Nat) (L:List N) (cd:Int) (w:World) (hl:L.length≤1048576) (hI:Lis ao L w) (hJ:Lis bo L w) :
 Calls Tryz.prog 22 #[.agg #[.slice ao L.length c,.int .i64 cd],.agg #[.slice bo L.length d,.int .i64 cd]] w fun e w'=>e=.returned (.bool true)∧Below w.heap.size w w':=by
 obtain ⟨W0,hW0⟩:∃z,z=(w.alloc (.cells #[.slice ao L.length c,.int .i64 cd] 31)).alloc (.cells #[.slice bo L.length d,.int .i64 cd] 31):=⟨_,rfl⟩
 have hB:Below w.heap.size w W0:=by rw [hW0];exact ((Below.refl _ _).alloc (Nat.le_refl _) _).alloc (by simp) _
 have HB:=H_ hB
 have HC:=H_ (lwLi_any ao bo c d L W0 hl (hI.below hB) (hJ.below hB))
 have HX:Hid (Blk w.heap.size [.slice ao L.length c,.int .i64 cd] W0):=H_ (by rw [hW0];exact (Blk.new w _ _).below ((Below.refl _ _).alloc (Nat.le_refl _) _))
 have HY:Hid (Blk (w.heap.size+1) [.slice bo L.length d,.int .i64 cd] W0):=H_ (by rw [hW0];simpa using Blk.new (w.alloc (.cells #[.slice ao L.length c,.int .i64 cd] 31)) [.slice bo L.length d,.int .i64 cd] 31)
 have HW:=H_ hW0
 clear hW0 hI hJ hB
 generalize L.length=n at *
 go_enter Tryz.func22,Tryz.ntmps22
 go_wp2_with fail
 rw [←HW.out]
 refine HC.out.mono ?_
 rintro e w1 ⟨rfl,hb⟩
 have HB1:=H_ (HB.out.trans (hb.mono HB.out.size))
 clear hb
 go_wp2_with fail
 go_ret
 exact ⟨rfl,HB1.out⟩
set_option maxRecDepth 100000 in
set_option maxHeartbeats 4000000 in
theorem lwFound_any (ao:Option Addr) (c:Nat) (L:List N) (x:N) (w:World) (hl:L.length≤1048576) (hm:x∈L) (hI:Lis ao L w) :
 Calls Tryz.prog 29 #[.slice ao L.length c,.agg #[.string x.i,.int .i64 x.n]] w fun e w'=>e=.returned (.bool true)∧Below w.heap.size w w':=by
 obtain ⟨m,hm1,hm2⟩:=List.getElem_of_mem hm
 have hmd:L.getD m N.zero=x:=by rw [←hm2];simp [List.getD,hm1]
 obtain ⟨W0,hW0⟩:∃z,z=w.alloc (.cells #[.string x.i,.int .i64 x.n] 58):=⟨_,rfl⟩
 have HB:Hid (Below w.heap.size w W0):=H_ (by rw [hW0];exact (Below.refl _ _).alloc (Nat.le_refl _) _)
 have HI:=H_ (hI.below HB.out)
 have HX:Hid (Blk w.heap.size [.string x.i,.int .i64 x.n] W0):=H_ (by rw [hW0];exact Blk.new w _ _)
 have HW:=H_ hW0
 obtain ⟨ln,hln⟩:∃ln,ln=L.length:=⟨_,rfl⟩
 rw [←hln] at hl hm1 ⊢
 have HL:=H_ hln
 have HMD:=H_ hmd
 clear hW0 hI hm hm2 hln hmd
 obtain ⟨xi,xn⟩:=x
 go_enter Tryz.func29,Tryz.ntmps29
 go_wp2_with fail
 rw [←HW.out]
 clear HW
 go_loopw [5] (fun z wr=>∃k:Nat,k≤m∧z=.int .i64 k∧Hid (Below W0.heap.size W0 wr)) (fun z _=>ln-(intOf z).toNat)
 case atStart=>exact ⟨0,by omega,rfl,H_ (Below.refl _ _)⟩
 case round =>
  obtain ⟨k,hk,rfl,HB1⟩:=hrel
  have hlt2:(k:Int)<(ln:Int):=by omega
  have hkl:k<L.length:=by have:=HL.out;omega
  obtain ⟨b,off,rfl,_,c0,c1⟩:=(HI.out.below HB1.out).at k hkl
  have x0:=(HX.out.below HB1.out).2 0 (by simp)
  have x1:=(HX.out.below HB1.out).2 1 (by simp)
  have xL:=(HX.out.below HB1.out).1
  simp only [List.getElem?_cons_zero,List.getElem?_cons_succ] at x0 x1
  have HBE:=H_ (HB.out.trans (HB1.out.mono HB.out.size))
  by_cases hkm:k=m
  ·subst hkm
   have hX:=HMD.out
   rw [hX] at c0 c1
   dsimp only at c0 c1 x0 x1
   go_wp2_with fail
   try (go_quiet (fail);go_wp2_with fail)
   go_ret
   exact ⟨rfl,by first|exact HBE.out|exact ldrewN HBE.out _⟩
  ·generalize L.getD k N.zero=Y at *
   obtain ⟨yi,yn⟩:=Y
   dsimp only at c0 c1 x0 x1
   by_cases he:yi.toList=xi.toList∧yn=xn
   ·obtain ⟨e1,e2⟩:=he
    obtain rfl:=LtR.toList_inj e1
    subst e2
    go_wp2_with fail
    try (go_quiet (fail);go_wp2_with fail)
    go_ret
    exact ⟨rfl,by first|exact HBE.out|exact ldrewN HBE.out _⟩
   ·by_cases e1:yi.toList=xi.toList
    ·have e2:yn≠xn:=fun q=>he ⟨e1,q⟩
     obtain rfl:=LtR.toList_inj e1
     go_wp2_with fail
     try (go_quiet (fail);go_wp2_with fail)
     go_roundw
     case rel=>exact ⟨k+1,by omega,by go_num,by first|exact HB1|exact H_ (ldrewN HB1.out _)⟩
     case measure=>simp [intOf];omega
    ·have e3:(yi.toList==xi.toList)=false:=by simpa using e1
     go_wp2_with fail
     try (go_quiet (fail);go_wp2_with fail)
     go_roundw
     case rel=>exact ⟨k+1,by omega,by go_num,by first|exact HB1|exact H_ (ldrewN HB1.out _)⟩
     case measure=>simp [intOf];omega
end LedR
namespace LinR
open RowG LtR
def sumL (es:List N):Int:=(es.map (fun e=>e.n)).sum
def totL (es:List N):Int:=bif sB es then sumL es else 0
theorem sum_take (es:List N) (k:Nat) (h:k<es.length):sumL (es.take (k+1))=sumL (es.take k)+(es.getD k N.zero).n:=by
 unfold sumL
 rw [take_more (z:=N.zero) es k h,List.map_append,List.sum_append]
 simp
theorem num_in {n:Int} (h:nOk n=true):-1000000000000000≤n∧n≤1000000000000000:=by unfold nOk at h;simpa using h
theorem line_in {es:List N} (h:SRight es) (k:Nat) (hk:k<es.length):-1000000000000000≤(es.getD k N.zero).n∧(es.getD k N.zero).n≤1000000000000000:=by
 have:=(h.2 k hk).2
 unfold lOk at this
 simp only [Bool.and_eq_true] at this
 exact num_in this.2.1
theorem sum_in {es:List N} (h:SRight es):∀k,k≤es.length→-(1000000000000000*(k:Int))≤sumL (es.take k)∧sumL (es.take k)≤1000000000000000*(k:Int)
 | 0,_=>by simp [sumL]
 | k+1,hk=>by
  have h1:=sum_in h k (by omega)
  have h2:=line_in h k (by omega)
  rw [sum_take es k (by omega)]
  push_cast
  omega
set_option maxRecDepth 100000 in
set_option maxHeartbeats 4000000 in
theorem impl_total (ao:Option Addr) (cap:Nat) (es:List N) (w:World) (hlen:es.length≤1048576) (hS:∀e∈es,e.i.size≤1048576) (hI:Lis ao es w) :
 Calls Tryz.prog 25 #[.slice ao es.length cap] w fun e w'=>e=.returned (.int .i64 (totL es))∧Below w.heap.size w w':=by
 have H1:=H_ (impl_lines ao cap es w hlen hS hI)
 have HT:Hid (totL es=bif sB es then sumL es else 0):=rfl
 have HR:=H_ (sB_iff (es:=es)).1
 have HI:=H_ hI
 generalize totL es=T at *
 generalize sB es=r at *
 obtain ⟨len,hl⟩:∃len,len=es.length:=⟨_,rfl⟩
 rw [←hl] at hlen H1 ⊢
 have HL:=H_ hl
 clear hI hS hl
 cases r
 ·go_enter Tryz.func25,Tryz.ntmps25
  go_wp2_with fail
  refine (H1.out).mono ?_
  rintro e w1 ⟨rfl,hb1⟩
  have HB:=H_ hb1
  clear hb1
  go_wp2_with fail
  go_ret
  exact ⟨ret_int HT.out.symm,HB.out⟩
 ·have HQ:=H_ (HR.out rfl)
  have h6:len≤6:=by have:=HQ.out.1;have:=HL.out;omega
  go_enter Tryz.func25,Tryz.ntmps25
  go_wp2_with fail
  refine (H1.out).mono ?_
  rintro e w1 ⟨rfl,hb1⟩
  have HB:=H_ hb1
  clear hb1
  go_wp2_with fail
  go_loopw [3,11] (fun x z wr=>∃(k:Nat) (t:Int),k≤len∧x=.int .i64 t∧z=.int .i64 k∧Hid (t=sumL (es.take k))∧Hid (Below w.heap.size w wr)) (fun x z _=>len-(intOf z).toNat)
  case atStart=>exact ⟨0,0,by omega,rfl,rfl,H_ (by simp [sumL]),HB⟩
  case round =>
   obtain ⟨k,t,hk,rfl,rfl,HS,HB⟩:=hrel
   by_cases hlt:k<len
   ·have hlt2:(k:Int)<(len:Int):=by omega
    obtain ⟨b,off,rfl,hbl,c0,c1⟩:=(HI.out.below HB.out).at k (by have:=HL.out;omega)
    have HN:=H_ (sum_take es k (by have:=HL.out;omega))
    have hw:wrap64 (t+(es.getD k N.zero).n)=t+(es.getD k N.zero).n:=by
     have a:=sum_in HQ.out k (by have:=HL.out;omega)
     have b:=line_in HQ.out k (by have:=HL.out;omega)
     rw [←HS.out] at a
     unfold wrap64;omega
    generalize es.getD k N.zero=X at *
    obtain ⟨xi,xn⟩:=X
    dsimp only at c0 c1 hw HN
    have HAl:=H_ (fun o=>HB.out.alloc HB.out.size o)
    go_wp2_with fail
    go_roundw
    case rel=>exact ⟨k+1,t+xn,by omega,by first|rfl|rw [hw],by go_num,H_ (by rw [HN.out,HS.out]),H_ (HAl.out _)⟩
    case measure=>simp [intOf];omega
   ·have hlt2:¬(k:Int)<(len:Int):=by omega
    obtain rfl:k=len:=by omega
    have HE:Hid (es.take k=es):=H_ (List.take_of_length_le (by have:=HL.out;omega))
    rw [HE.out] at HS
    go_wp2_with fail
    go_ret
    exact ⟨ret_int (by rw [HT.out,HS.out];rfl),HB.out⟩
set_option maxRecDepth 100000 in
set_option maxHeartbeats 4000000 in
theorem spec_total (ao:Option Addr) (cap:Nat) (es:List N) (w:World) (hlen:es.length≤1048576) (hS:∀e∈es,e.i.size≤1048576) (hI:Lis ao es w) :
 Calls Tryz.prog 26 #[.slice ao es.length cap] w fun e w'=>e=.returned (.int .i64 (totL es))∧Below w.heap.size w w':=by
 by_cases h4:400<es.length
 ·have HT:Hid (totL es=0):=H_ (by unfold totL;rw [sB_long (by omega)];rfl)
  generalize totL es=T at *
  obtain ⟨len,hl⟩:∃len,len=es.length:=⟨_,rfl⟩
  rw [←hl] at hlen h4 ⊢
  have h4':(400:Int)<(len:Int):=by omega
  clear hI hS hl
  go_enter Tryz.func26,Tryz.ntmps26
  go_wp2_with fail
  go_ret
  exact ⟨ret_int HT.out.symm,Below.refl _ _⟩
 have H1:=H_ (spec_lines ao cap es w hlen hS hI)
 have HT:Hid (totL es=bif sB es then sumL es else 0):=rfl
 have HR:=H_ (sB_iff (es:=es)).1
 have HI:=H_ hI
 generalize totL es=T at *
 generalize sB es=r at *
 obtain ⟨len,hl⟩:∃len,len=es.length:=⟨_,rfl⟩
 rw [←hl] at hlen H1 h4 ⊢
 have HL:=H_ hl
 have h4':¬(400:Int)<(len:Int):=by omega
 clear hI hS hl
 cases r
 ·go_enter Tryz.func26,Tryz.ntmps26
  go_wp2_with fail
  refine (H1.out).mono ?_
  rintro e w1 ⟨rfl,hb1⟩
  have HB:=H_ hb1
  clear hb1
  go_wp2_with fail
  go_ret
  exact ⟨ret_int HT.out.symm,HB.out⟩
 ·have HQ:=H_ (HR.out rfl)
  have h6:len≤6:=by have:=HQ.out.1;have:=HL.out;omega
  go_enter Tryz.func26,Tryz.ntmps26
  go_wp2_with fail
  refine (H1.out).mono ?_
  rintro e w1 ⟨rfl,hb1⟩
  have HB:=H_ hb1
  clear hb1
  go_wp2_with fail
  go_loopw [3,4] (fun x z wr=>∃(k:Nat) (t:Int),k≤len∧x=.int .i64 t∧z=.int .i64 k∧Hid (t=sumL (es.take k))∧Hid (Below w.heap.size w wr)) (fun x z _=>len-(intOf z).toNat)
  case atStart=>exact ⟨0,0,by omega,rfl,rfl,H_ (by simp [sumL]),HB⟩
  case round =>
   obtain ⟨k,t,hk,rfl,rfl,HS,HB⟩:=hrel
   by_cases hlt:k<len
   ·have hlt2:(k:Int)<(len:Int):=by omega
    obtain ⟨b,off,rfl,hbl,c0,c1⟩:=(HI.out.below HB.out).at k (by have:=HL.out;omega)
    have HN:=H_ (sum_take es k (by have:=HL.out;omega))
    have hw:wrap64 (t+(es.getD k N.zero).n)=t+(es.getD k N.zero).n:=by
     have a:=sum_in HQ.out k (by have:=HL.out;omega)
     have b:=line_in HQ.out k (by have:=HL.out;omega)
     rw [←HS.out] at a
     unfold wrap64;omega
    generalize es.getD k N.zero=X at *
    obtain ⟨xi,xn⟩:=X
    dsimp only at c0 c1 hw HN
    have HAl:=H_ (fun o=>HB.out.alloc HB.out.size o)
    go_wp2_with fail
    go_roundw
    case rel=>exact ⟨k+1,t+xn,by omega,by first|rfl|rw [hw],by go_num,H_ (by rw [HN.out,HS.out]),by first|exact HB|exact H_ (HAl.out _)⟩
    case measure=>simp [intOf];omega
   ·have hlt2:¬(k:Int)<(len:Int):=by omega
    obtain rfl:k=len:=by omega
    have HE:Hid (es.take k=es):=H_ (List.take_of_length_le (by have:=HL.out;omega))
    rw [HE.out] at HS
    go_wp2_with fail
    go_ret
    exact ⟨ret_int (by rw [HT.out,HS.out];rfl),HB.out⟩
end LinR
namespace ClampR
def clamp (n low high:Int):Int:=if n<low then low else if high<n then high else n
theorem impl_any (n low high:Int) (w:World) :
 Calls Tryz.prog 67 #[.int .i64 n,.int .i64 low,.int .i64 high] w fun e w'=>e=.returned (.int .i64 (clamp n low high))∧w'=w:=by
 unfold clamp
 by_cases h1:n<low
 ·rw [if_pos h1]
  go_enter Tryz.func67,Tryz.ntmps67
  go_wp2
  go_ret
  exact ⟨rfl,rfl⟩
 ·rw [if_neg h1]
  by_cases h2:high<n
  all_goals
   simp only [h2,if_true,if_false]
   go_enter Tryz.func67,Tryz.ntmps67
   go_wp2
   go_ret
   exact ⟨rfl,rfl⟩
end ClampR
namespace LinR
open RowG LtR
open ClampR (clamp)
def pd (c n:Int):Int:=clamp n 0 c
theorem pd_bd {c n:Int} (hc:0≤c):0≤pd c n∧pd c n≤c∧(n≤0→pd c n=0)∧(0<n→pd c n≤n∧(pd c n=n∨pd c n=c)):=by
 unfold pd clamp
 split<;>(try split)<;>omega
def cr (c:Int) (es:List N):Nat→Int
 | 0=>c
 | k+1=>cr c es k-pd (cr c es k) (es.getD k N.zero).n
def dl (c:Int) (es:List N):Nat→List N
 | 0=>[]
 | k+1=>dl c es k ++ [⟨(es.getD k N.zero).i,(es.getD k N.zero).n-pd (cr c es k) (es.getD k N.zero).n⟩]
theorem dl_len (c:Int) (es:List N):∀k,(dl c es k).length=k
 | 0=>rfl
 | k+1=>by simp [dl,dl_len c es k]
theorem cr_bd {c:Int} (es:List N) (hc:0≤c):∀k,0≤cr c es k∧cr c es k≤c
 | 0=>⟨hc,Int.le_refl _⟩
 | k+1=>by
  have h:=cr_bd es hc k
  have p:=pd_bd (n:=(es.getD k N.zero).n) h.1
  simp only [cr]
  omega
theorem dl_mem {c:Int} {es:List N}:∀{k},k≤es.length→∀e∈dl c es k,∃x∈es,e.i=x.i
 | 0,_,e,h=>by cases h
 | k+1,hk,e,h=>by
  rcases List.mem_append.1 h with h|h
  ·exact dl_mem (by omega) e h
  ·simp only [List.mem_singleton] at h
   exact ⟨_,getD_mem (z:=N.zero) es k (by omega),by rw [h]⟩
def drawL (c:Int) (es:List N):List N:=(dl c es es.length).filter nz
def drawB (c:Int) (es:List N):List N:=bif sB es&&decide (0≤c∧c≤1000000000000000) then drawL c es else []
theorem inS (n low high:Int) (w:World) :
 Calls Tryz.prog 66 #[.int .i64 n,.int .i64 low,.int .i64 high] w fun e w'=>e=.returned (.bool (decide (low≤n∧n≤high)))∧w'=w:=by
 rcases (show (¬low≤n)∨(low≤n∧¬n≤high)∨(low≤n∧n≤high) by omega) with h|⟨h1,h2⟩|⟨h1,h2⟩
 all_goals
  go_enter Tryz.func66,Tryz.ntmps66
  go_wp2
  go_ret
  exact ⟨ret_bool (by first|(simp [*];done)|(simp;omega)),rfl⟩
theorem isS (n low high:Int) (w:World) :
 Calls Tryz.prog 69 #[.int .i64 n,.int .i64 low,.int .i64 high] w fun e w'=>e=.returned (.bool (decide (low≤n∧n≤high)))∧w'=w:=by
 rcases (show (¬low≤n)∨(low≤n∧¬n≤high)∨(low≤n∧n≤high) by omega) with h|⟨h1,h2⟩|⟨h1,h2⟩
 all_goals
  go_enter Tryz.func69,Tryz.ntmps69
  go_wp2
  go_ret
  exact ⟨ret_bool (by first|(simp [*];done)|(simp;omega)),rfl⟩
def Res (w:World) (l:List N) (e:Ending) (w':World):Prop:=∃ao cap,e=.returned (.slice ao l.length cap)∧MadeG 2 N.cells N.zero w.heap.size ao l w'∧Below w.heap.size w w'
theorem res_own {w w':World} {l:List N} {v:Value} (h:w'.ownsRow w.heap.size 58 2 v l.length (cellsAll N.cells l)) (hb:Below w.heap.size w w'):Res w l (.returned v) w':=by
 obtain ⟨ao,cap,rfl,hm⟩:=own_made (z:=N.zero) N.len h
 exact ⟨ao,cap,rfl,hm,hb⟩
theorem sub_w {a b:Int} (h:-4000000000000000≤a-b∧a-b≤4000000000000000):wrap64 (a-b)=a-b:=by unfold wrap64;omega
set_option maxRecDepth 100000 in
set_option maxHeartbeats 4000000 in
theorem impl_drawn (ao:Option Addr) (cap:Nat) (es:List N) (c:Int) (w:World) (hlen:es.length≤1048576) (hS:∀e∈es,e.i.size≤1048576) (hI:Lis ao es w) :
 Calls Tryz.prog 20 #[.slice ao es.length cap,.int .i64 c] w fun e w'=>Res w (drawB c es) e w':=by
 obtain ⟨i0,hi,hz0,hz1,hz2⟩:=info_parts infoN
 have H1:=H_ (impl_lines ao cap es w hlen hS hI)
 have H2:=H_ (fun w=>inS c 0 1000000000000000 w)
 have HT:Hid (drawB c es=bif sB es&&decide (0≤c∧c≤1000000000000000) then drawL c es else []):=rfl
 have HR:=H_ (sB_iff (es:=es)).1
 have HC0:Hid (decide (0≤c∧c≤1000000000000000)=true→0≤c∧c≤1000000000000000):=H_ (fun h=>by simpa using h)
 have HI:=H_ hI
 have HPT:=H_ (fun bo cap' W (h:Lis bo (dl c es es.length) W) (h6:es.length≤40)=>put_any bo cap' (dl c es es.length) W (by rw [dl_len];omega) (fun e he=>by obtain ⟨x,hx,e1⟩:=dl_mem (Nat.le_refl _) e he;rw [e1];exact hS x hx) h)
 have HDL:Hid (drawL c es=(dl c es es.length).filter nz):=rfl
 rw [←HDL.out,dl_len] at HPT
 generalize drawB c es=D at *
 generalize sB es=r at *
 generalize decide (0≤c∧c≤1000000000000000)=q at *
 obtain ⟨len,hl⟩:∃len,len=es.length:=⟨_,rfl⟩
 rw [←hl] at hlen H1 HPT HDL ⊢
 have HL:=H_ hl
 clear hI hS hl
 cases r
 ·go_enter Tryz.func20,Tryz.ntmps20
  go_wp2_with fail
  refine (H1.out).mono ?_
  rintro e w1 ⟨rfl,hb1⟩
  have HB:=H_ hb1
  clear hb1
  go_wp2_with fail
  go_ret
  rw [HT.out]
  exact ⟨none,0,rfl,made_nil _ _ _,HB.out⟩
 cases q
 ·go_enter Tryz.func20,Tryz.ntmps20
  go_wp2_with fail
  refine (H1.out).mono ?_
  rintro e w1 ⟨rfl,hb1⟩
  have HB:=H_ hb1
  clear hb1
  go_wp2_with (go_at_call 66;refine (H2.out _).mono ?_;rintro e w2 ⟨rfl,rfl⟩)
  go_ret
  rw [HT.out]
  exact ⟨none,0,rfl,made_nil _ _ _,HB.out⟩
 have HQ:=H_ (HR.out rfl)
 have HC:=H_ (HC0.out rfl)
 have h6:len≤6:=by have:=HQ.out.1;have:=HL.out;omega
 go_enter Tryz.func20,Tryz.ntmps20
 go_wp2_with fail
 refine (H1.out).mono ?_
 rintro e w1 ⟨rfl,hb1⟩
 have HB:=H_ hb1
 clear hb1
 go_wp2_with (go_at_call 66;refine (H2.out _).mono ?_;rintro e w2 ⟨rfl,rfl⟩)
 go_loopw [1,5,19] (fun x v z wr=>∃k:Nat,k≤len∧x=.int .i64 (cr c es k)∧z=.int .i64 k∧Hid (wr.ownsRow w.heap.size 58 2 v k (cellsAll N.cells (dl c es k)))∧Hid (Below w.heap.size w wr)) (fun x v z _=>len-(intOf z).toNat)
 case atStart=>exact ⟨0,by omega,rfl,rfl,H_ (World.ownsRow_nil _ _ _ _),HB⟩
 case round =>
  obtain ⟨k,hk,rfl,rfl,HO,HB⟩:=hrel
  by_cases hlt:k<len
  ·have hlt2:(k:Int)<(len:Int):=by omega
   obtain ⟨b,off,rfl,hbl,c0,c1⟩:=(HI.out.below HB.out).at k (by have:=HL.out;omega)
   have HIN:=H_ (line_in HQ.out k (by have:=HL.out;omega))
   have HCB:=H_ (cr_bd es HC.out.1 k)
   have HN1:Hid (cr c es (k+1)=cr c es k-pd (cr c es k) (es.getD k N.zero).n):=rfl
   have HN2:Hid (dl c es (k+1)=dl c es k ++ [⟨(es.getD k N.zero).i,(es.getD k N.zero).n-pd (cr c es k) (es.getD k N.zero).n⟩]):=rfl
   generalize es.getD k N.zero=X at *
   obtain ⟨xi,xn⟩:=X
   dsimp only at c0 c1 HIN HN1 HN2
   have HPD:=H_ (pd_bd (n:=xn) HCB.out.1)
   have HCL:=H_ (fun w=>ClampR.impl_any xn 0 (cr c es k) w)
   have hpe:clamp xn 0 (cr c es k)=pd (cr c es k) xn:=rfl
   rw [hpe] at HCL
   have w1:wrap64 (cr c es k-pd (cr c es k) xn)=cr c es k-pd (cr c es k) xn:=sub_w (by have:=HPD.out;have:=HCB.out;have:=HC.out;omega)
   have w2:wrap64 (xn-pd (cr c es k) xn)=xn-pd (cr c es k) xn:=sub_w (by have:=HPD.out;have:=HCB.out;have:=HC.out;have:=HIN.out;omega)
   have HLD:=H_ (dl_len c es k)
   generalize pd (cr c es k) xn=p at *
   generalize dl c es k=F at *
   generalize cr c es k=C at *
   clear hpe
   go_wp2_with (first|(go_at_call 67;refine (HCL.out _).mono ?_;rintro e w3 ⟨rfl,rfl⟩)|(at_builtin;refine wpList_append_own _ rfl _ _ 29 rfl w.heap.size 58 i0 (.agg #[.string ⟨#[]⟩,.int .i64 0]) 2 24 Tryz.underlying29 hi hz0 hz1 hz2 rfl (by decide) _ _ _ rfl ((HO.out.alloc _).alloc _) ⟨_,0,none⟩ 1 1 (N.cells ⟨xi,xn-p⟩) rfl rfl ?d1 ?d2 ?d3 ?d4 ?d5 ?_))
   case d1 =>
    intro j u hx
    have:=two_cells (wr.alloc (.cells #[.string xi,.int .i64 xn] 58)) xi (xn-p) 58 j u hx
    simpa using this
   case d2=>exact two_one _
   case d3=>unfold maxLen;omega
   case d4=>omega
   case d5=>have h1:=HB.out.size;simp;omega
   intro v' w4 hown hgrow hne
   have HO4:Hid (w4.ownsRow w.heap.size 58 2 v' (k+1) (cellsAll N.cells (F ++ [(⟨xi,xn-p⟩:N)]))):=H_ (by rw [cellsAll_app];exact hown)
   have HOB:=H_ (fun c hc=>(HO.out.lt c hc).1)
   have HB4:Hid (Below w.heap.size w w4):=H_ (((HB.out.alloc HB.out.size _).alloc (HB.out.alloc HB.out.size _).size _).grown hgrow ((HB.out.alloc HB.out.size _).alloc (HB.out.alloc HB.out.size _).size _).size (fun c e=>HOB.out c e))
   clear hown hgrow hne
   go_wp2_with fail
   go_roundw
   case rel=>exact ⟨k+1,by omega,by rw [HN1.out],by go_num,H_ (by rw [HN2.out];exact HO4.out),HB4⟩
   case measure=>simp [intOf];omega
  ·have hlt2:¬(k:Int)<(len:Int):=by omega
   obtain rfl:k=len:=by omega
   have HLD:=H_ (dl_len c es k)
   obtain ⟨bo,cap',rfl,hm⟩:=own_made (z:=N.zero) N.len (by rw [HLD.out];exact HO.out)
   have HM:=H_ hm.rws
   rw [HLD.out]
   clear hm
   go_wp2_with fail
   refine (HPT.out _ _ _ HM.out (by have:=HL.out;omega)).mono ?_
   rintro e w5 ⟨v,rfl,ho,hb5⟩
   have HO5:=H_ (own_low ho HB.out.size)
   have HB5:=H_ (HB.out.trans (hb5.mono HB.out.size))
   clear ho hb5
   go_wp2_with fail
   go_ret
   rw [HT.out]
   exact res_own HO5.out HB5.out
theorem dl_more (c:Int) (es:List N) (k:Nat):(dl c es (k+1)).filter nz=(dl c es k).filter nz++(bif nz ⟨(es.getD k N.zero).i,(es.getD k N.zero).n-pd (cr c es k) (es.getD k N.zero).n⟩ then [⟨(es.getD k N.zero).i,(es.getD k N.zero).n-pd (cr c es k) (es.getD k N.zero).n⟩] else []):=by
 show ((dl c es k) ++ [_]).filter nz=_
 rw [List.filter_append]
 generalize (⟨(es.getD k N.zero).i,(es.getD k N.zero).n-pd (cr c es k) (es.getD k N.zero).n⟩:N)=X
 cases hr:nz X<;>simp [hr]
theorem min_any (a b:Int) (w:World):Calls Tryz.prog 110 #[.int .i64 a,.int .i64 b] w fun e w'=>e=.returned (.int .i64 (if a<b then a else b))∧w'=w:=by
 by_cases h:a<b
 all_goals
  simp only [h,if_true,if_false]
  go_enter Tryz.func110,Tryz.ntmps110
  go_wp2
  go_ret
  exact ⟨rfl,rfl⟩
theorem pd_min {c n:Int} (hc:0≤c) (hn:0<n):(if n<c then n else c)=pd c n:=by
 unfold pd clamp
 split<;>split<;>(try split)<;>omega
set_option maxRecDepth 100000 in
set_option maxHeartbeats 4000000 in
theorem spec_drawn0 (ao:Option Addr) (cap:Nat) (es:List N) (c:Int) (w:World) (hR:SRight es) (hC:0≤c∧c≤1000000000000000) (hI:Lis ao es w) :
 Calls Tryz.prog 70 #[.slice ao es.length cap,.int .i64 c] w fun e w'=>∃v,e=.returned v∧w'.ownsRow w.heap.size 58 2 v (drawL c es).length (cellsAll N.cells (drawL c es))∧Below w.heap.size w w':=by
 obtain ⟨i0,hi,hz0,hz1,hz2⟩:=info_parts infoN
 have HI:=H_ hI
 have HQ:=H_ hR
 have HC:=H_ hC
 have HDL:Hid (drawL c es=(dl c es es.length).filter nz):=rfl
 generalize drawL c es=D at *
 obtain ⟨len,hl⟩:∃len,len=es.length:=⟨_,rfl⟩
 rw [←hl] at HDL ⊢
 have HL:=H_ hl
 have h6:len≤6:=by have:=hR.1;omega
 have HE:=H_ (own_empty w w.heap.size 58 2 (Nat.le_refl _))
 clear hI hl hR hC
 go_enter Tryz.func70,Tryz.ntmps70
 go_wp2_with fail
 go_loopw [1,5,6] (fun x v z wr=>∃k:Nat,k≤len∧x=.int .i64 (cr c es k)∧z=.int .i64 k∧Hid (wr.ownsRow w.heap.size 58 2 v ((dl c es k).filter nz).length (cellsAll N.cells ((dl c es k).filter nz)))∧Hid (Below w.heap.size w wr)) (fun x v z _=>len-(intOf z).toNat)
 case atStart=>exact ⟨0,by omega,rfl,rfl,HE,H_ ((Below.refl _ _).alloc (Nat.le_refl _) _)⟩
 case round =>
  obtain ⟨k,hk,rfl,rfl,HO,HB⟩:=hrel
  by_cases hlt:k<len
  ·have hlt2:(k:Int)<(len:Int):=by omega
   obtain ⟨b,off,rfl,hbl,c0,c1⟩:=(HI.out.below HB.out).at k (by have:=HL.out;omega)
   have HIN:=H_ (line_in HQ.out k (by have:=HL.out;omega))
   have HCB:=H_ (cr_bd es HC.out.1 k)
   have HN1:Hid (cr c es (k+1)=cr c es k-pd (cr c es k) (es.getD k N.zero).n):=rfl
   have HN2:=H_ (dl_more c es k)
   have HLF:Hid (((dl c es k).filter nz).length≤6):=H_ (by
    have h1:=List.length_filter_le nz (dl c es k)
    rw [dl_len] at h1
    omega)
   generalize (dl c es k).filter nz=F at *
   generalize es.getD k N.zero=X at *
   obtain ⟨xi,xn⟩:=X
   dsimp only at c0 c1 HIN HN1 HN2
   have HPD:=H_ (pd_bd (n:=xn) HCB.out.1)
   by_cases hx:0<xn
   ·have HMN:=H_ (fun w=>min_any xn (cr c es k) w)
    rw [pd_min HCB.out.1 hx] at HMN
    have w1:wrap64 (cr c es k-pd (cr c es k) xn)=cr c es k-pd (cr c es k) xn:=sub_w (by have:=HPD.out;have:=HCB.out;have:=HC.out;omega)
    have w2:wrap64 (xn-pd (cr c es k) xn)=xn-pd (cr c es k) xn:=sub_w (by have:=HPD.out;have:=HCB.out;have:=HC.out;have:=HIN.out;omega)
    generalize pd (cr c es k) xn=p at *
    generalize cr c es k=C at *
    obtain ⟨Y,hY⟩:∃Y,Y=xn-p:=⟨_,rfl⟩
    rw [←hY] at HN2
    replace w2:wrap64 (xn-p)=Y:=w2.trans hY.symm
    obtain ⟨Z,hZ⟩:∃Z,Z=C-p:=⟨_,rfl⟩
    rw [←hZ] at HN1
    replace w1:wrap64 (C-p)=Z:=w1.trans hZ.symm
    clear hZ hY
    have HB1:=H_ (HB.out.alloc HB.out.size (.cells #[.string xi,.int .i64 Y] 58))
    have HO1:=H_ (HO.out.alloc (.cells #[.string xi,.int .i64 Y] 58))
    rcases nz_cases xi Y with ⟨q1,q2,q3⟩|⟨q1,q2,q3⟩
    ·rw [q3,cond_false,List.append_nil] at HN2
     go_wp2_with (go_at_call 110;refine (HMN.out _).mono ?_;rintro e w3 ⟨rfl,rfl⟩)
     go_roundw
     case rel=>exact ⟨k+1,by omega,by first|(rw [HN1.out];done)|rw [HN1.out,w1],by go_num,H_ (by rw [HN2.out];exact HO1.out),HB1⟩
     case measure=>simp [intOf];omega
    ·rw [q3,cond_true] at HN2
     go_wp2_with (first|(go_at_call 110;refine (HMN.out _).mono ?_;rintro e w3 ⟨rfl,rfl⟩)|(at_builtin;refine wpList_append_own _ rfl _ _ 29 rfl w.heap.size 58 i0 (.agg #[.string ⟨#[]⟩,.int .i64 0]) 2 24 Tryz.underlying29 hi hz0 hz1 hz2 rfl (by decide) _ _ _ rfl (HO1.out.alloc _) ⟨_,0,none⟩ 1 1 (N.cells ⟨xi,Y⟩) rfl rfl ?d1 ?d2 ?d3 ?d4 ?d5 ?_))
     case d1 =>
      intro j u hx
      have:=two_cells (wr.alloc (.cells #[.string xi,.int .i64 Y] 58)) xi Y 58 j u hx
      simpa using this
     case d2=>exact two_one _
     case d3=>unfold maxLen;have:=HLF.out;omega
     case d4=>have:=HLF.out;omega
     case d5=>have h1:=HB.out.size;simp;omega
     intro v' w4 hown hgrow hne
     have HO4:Hid (w4.ownsRow w.heap.size 58 2 v' (F ++ [(⟨xi,Y⟩:N)]).length (cellsAll N.cells (F ++ [(⟨xi,Y⟩:N)]))):=H_ (by rw [cellsAll_app,List.length_append];exact hown)
     have HOB:=H_ (fun c hc=>(HO.out.lt c hc).1)
     have HB4:Hid (Below w.heap.size w w4):=H_ ((HB1.out.alloc HB1.out.size _).grown hgrow (HB1.out.alloc HB1.out.size _).size (fun c e=>HOB.out c e))
     clear hown hgrow hne
     go_wp2_with fail
     go_roundw
     case rel=>exact ⟨k+1,by omega,by first|(rw [HN1.out];done)|rw [HN1.out,w1],by go_num,H_ (by rw [HN2.out];exact HO4.out),HB4⟩
     case measure=>simp [intOf];omega
   ·have e0:pd (cr c es k) xn=0:=HPD.out.2.2.1 (by omega)
    rw [e0,Int.sub_zero] at HN1 HN2
    clear e0 HPD
    generalize cr c es k=C at *
    have HB1:=H_ (HB.out.alloc HB.out.size (.cells #[.string xi,.int .i64 xn] 58))
    have HO1:=H_ (HO.out.alloc (.cells #[.string xi,.int .i64 xn] 58))
    rcases nz_cases xi xn with ⟨q1,q2,q3⟩|⟨q1,q2,q3⟩
    ·rw [q3,cond_false,List.append_nil] at HN2
     go_wp2_with fail
     go_roundw
     case rel=>exact ⟨k+1,by omega,by first|(rw [HN1.out];done)|rw [HN1.out,w1],by go_num,H_ (by rw [HN2.out];exact HO1.out),HB1⟩
     case measure=>simp [intOf];omega
    ·rw [q3,cond_true] at HN2
     go_wp2_with (at_builtin;refine wpList_append_own _ rfl _ _ 29 rfl w.heap.size 58 i0 (.agg #[.string ⟨#[]⟩,.int .i64 0]) 2 24 Tryz.underlying29 hi hz0 hz1 hz2 rfl (by decide) _ _ _ rfl (HO1.out.alloc _) ⟨_,0,none⟩ 1 1 (N.cells ⟨xi,xn⟩) rfl rfl ?d1 ?d2 ?d3 ?d4 ?d5 ?_)
     case d1=>exact fun _ _ h=>h
     case d2=>exact two_one _
     case d3=>unfold maxLen;have:=HLF.out;omega
     case d4=>have:=HLF.out;omega
     case d5=>have h1:=HB.out.size;simp;omega
     intro v' w4 hown hgrow hne
     have HO4:Hid (w4.ownsRow w.heap.size 58 2 v' (F ++ [(⟨xi,xn⟩:N)]).length (cellsAll N.cells (F ++ [(⟨xi,xn⟩:N)]))):=H_ (by rw [cellsAll_app,List.length_append];exact hown)
     have HOB:=H_ (fun c hc=>(HO.out.lt c hc).1)
     have HB4:Hid (Below w.heap.size w w4):=H_ ((HB1.out.alloc HB1.out.size _).grown hgrow (HB1.out.alloc HB1.out.size _).size (fun c e=>HOB.out c e))
     clear hown hgrow hne
     go_wp2_with fail
     go_roundw
     case rel=>exact ⟨k+1,by omega,by first|(rw [HN1.out];done)|rw [HN1.out,w1],by go_num,H_ (by rw [HN2.out];exact HO4.out),HB4⟩
     case measure=>simp [intOf];omega
  ·have hlt2:¬(k:Int)<(len:Int):=by omega
   obtain rfl:k=len:=by omega
   rw [←HDL.out] at HO
   go_wp2_with fail
   go_ret
   exact ⟨_,rfl,HO.out,HB.out⟩
set_option maxRecDepth 100000 in
set_option maxHeartbeats 4000000 in
theorem spec_drawn (ao:Option Addr) (cap:Nat) (es:List N) (c:Int) (w:World) (hlen:es.length≤1048576) (hS:∀e∈es,e.i.size≤1048576) (hI:Lis ao es w) :
 Calls Tryz.prog 24 #[.slice ao es.length cap,.int .i64 c] w fun e w'=>Res w (drawB c es) e w':=by
 by_cases h4:400<es.length
 ·have HT:Hid (drawB c es=[]):=H_ (by unfold drawB;rw [sB_long (by omega)];rfl)
  generalize drawB c es=T at *
  obtain ⟨len,hl⟩:∃len,len=es.length:=⟨_,rfl⟩
  rw [←hl] at hlen h4 ⊢
  have h4':(400:Int)<(len:Int):=by omega
  clear hI hS hl
  go_enter Tryz.func24,Tryz.ntmps24
  go_wp2_with fail
  go_ret
  rw [HT.out]
  exact ⟨_,_,rfl,made_nil _ _ _,(Below.refl _ _).alloc (Nat.le_refl _) _⟩
 have H1:=H_ (spec_lines ao cap es w hlen hS hI)
 have H2:=H_ (fun w=>isS c 0 1000000000000000 w)
 have HT:Hid (drawB c es=bif sB es&&decide (0≤c∧c≤1000000000000000) then drawL c es else []):=rfl
 have HR:=H_ (sB_iff (es:=es)).1
 have HC0:Hid (decide (0≤c∧c≤1000000000000000)=true→0≤c∧c≤1000000000000000):=H_ (fun h=>by simpa using h)
 have HK:=H_ (fun W (hW:Below w.heap.size w W) hR hC=>spec_drawn0 ao cap es c W hR hC (hI.below hW))
 generalize drawB c es=D at *
 generalize sB es=r at *
 generalize decide (0≤c∧c≤1000000000000000)=q at *
 obtain ⟨len,hl⟩:∃len,len=es.length:=⟨_,rfl⟩
 rw [←hl] at hlen H1 HK h4 ⊢
 have h4':¬(400:Int)<(len:Int):=by omega
 clear hI hS hl
 cases r
 ·go_enter Tryz.func24,Tryz.ntmps24
  go_wp2_with fail
  refine (H1.out).mono ?_
  rintro e w1 ⟨rfl,hb1⟩
  have HB:=H_ hb1
  clear hb1
  go_wp2_with fail
  go_ret
  rw [HT.out]
  exact ⟨_,_,rfl,made_nil _ _ _,HB.out.alloc HB.out.size _⟩
 cases q
 ·go_enter Tryz.func24,Tryz.ntmps24
  go_wp2_with fail
  refine (H1.out).mono ?_
  rintro e w1 ⟨rfl,hb1⟩
  have HB:=H_ hb1
  clear hb1
  go_wp2_with (go_at_call 69;refine (H2.out _).mono ?_;rintro e w2 ⟨rfl,rfl⟩)
  go_ret
  rw [HT.out]
  exact ⟨_,_,rfl,made_nil _ _ _,HB.out.alloc HB.out.size _⟩
 have HQ:=H_ (HR.out rfl)
 have HC:=H_ (HC0.out rfl)
 go_enter Tryz.func24,Tryz.ntmps24
 go_wp2_with fail
 refine (H1.out).mono ?_
 rintro e w1 ⟨rfl,hb1⟩
 have HB:=H_ hb1
 clear hb1
 go_wp2_with (go_at_call 69;refine (H2.out _).mono ?_;rintro e w2 ⟨rfl,rfl⟩)
 refine (HK.out _ HB.out HQ.out HC.out).mono ?_
 rintro e w2 ⟨v,rfl,ho,hb2⟩
 have HB2:=H_ (HB.out.trans (hb2.mono HB.out.size))
 have HO:=H_ (own_low ho HB.out.size)
 clear ho hb2
 go_wp2_with fail
 go_ret
 rw [HT.out]
 exact res_own HO.out HB2.out
theorem draw_len {c:Int} {es:List N}:(drawB c es).length≤6:=by
 unfold drawB
 cases hs:sB es
 ·simp
 ·have:=(sB_iff.1 hs).1
  have h2:=List.length_filter_le nz (dl c es es.length)
  rw [dl_len] at h2
  cases decide (0≤c∧c≤1000000000000000)
  ·simp
  ·simp only [Bool.and_self,cond_true,drawL]
   omega
end LinR
end Go.Proofs.YtcilbmhkhllmjaaGreatDoor
