/-
  The model's count of documents of an account and month, and what they come to. The conditions: at most 1048576 documents to count, at most 30 that are right to add.
-/
import Derived.Test.YtnceeaccbcfopaaGreatDoorT136
namespace Go.Proofs.YtnceeaccbcfopaaGreatDoor
open Go.ChangeShapes Go.WideShapes Go.ChangeAt Go.RowKit
set_option linter.unusedVariables false
namespace LedR
open LinR RowG LtR NetR DocR
theorem of_cases (a:ByteArray) (m:Int) (x:D):((x.a.toList==a.toList)=false∧of a m x=false)∨((x.a.toList==a.toList)=true∧(x.mo==m)=false∧of a m x=false)∨((x.a.toList==a.toList)=true∧(x.mo==m)=true∧of a m x=true):=by
 unfold of
 cases (x.a.toList==a.toList)<;>cases (x.mo==m)<;>simp
set_option maxRecDepth 100000 in
set_option maxHeartbeats 4000000 in
theorem scount (ao:Option Addr) (cap:Nat) (ds:List D) (n:Nat) (a:ByteArray) (m:Int) (w:World) (hn:n≤ds.length) (hlen:ds.length≤1048576) (hI:Dcs ao ds w) :
 Calls Tryz.prog 107 #[.slice ao ds.length cap,.int .i64 n,.string a,.int .i64 m] w fun e w'=>e=.returned (.int .i64 (cnt (ds.take n) a m:Nat))∧Below w.heap.size w w':=by
 have HI:=H_ hI
 have HN:=H_ hn
 obtain ⟨len,hl⟩:∃len,len=ds.length:=⟨_,rfl⟩
 rw [←hl] at hlen hn ⊢
 have HL:=H_ hl
 have HCL:Hid (∀k,cnt (ds.take k) a m≤1048576):=H_ (fun k=>by have h1:=cnt_le (ds.take k) a m;have h2:=(List.take_sublist k ds).length_le;omega)
 clear hI hl
 go_enter Tryz.func107,Tryz.ntmps107
 go_wp2_with fail
 go_loopw [9,10] (fun c z wr=>∃k:Nat,k≤n∧z=.int .i64 k∧c=.int .i64 (cnt (ds.take k) a m:Nat)∧Hid (Below w.heap.size w wr)) (fun c z _=>n-(intOf z).toNat)
 case atStart=>exact ⟨0,by omega,rfl,rfl,H_ (Below.refl _ _)⟩
 case round =>
  obtain ⟨k,hk,rfl,rfl,HB⟩:=hrel
  have hcl:=HCL.out k
  by_cases hlt:k<n
  ·have hlt2:(k:Int)<(n:Int):=by omega
   have hkl2:(k:Int)<(len:Int):=by omega
   have hkl:k<ds.length:=by have:=HL.out;omega
   obtain ⟨b,off,la,lc,rfl,hbl,c0,c1,c2,c3,_⟩:=(HI.out.below HB.out).at k hkl
   have HC:=H_ (cnt_more ds k hkl a m)
   have HO:=H_ (of_cases a m (ds.getD k D.zero))
   generalize ds.getD k D.zero=X at *
   obtain ⟨xa,xm,xs,xl⟩:=X
   dsimp only at c0 c1
   rcases HO.out with ⟨q1,q2⟩|⟨q1,q3,q2⟩|⟨q1,q3,q2⟩
   ·dsimp only at q1
    rw [q2,cond_false,Nat.add_zero] at HC
    go_wp2_with fail
    go_roundw
    case rel=>exact ⟨k+1,by omega,by go_num,by rw [HC.out];rfl,HB⟩
    case measure=>simp [intOf];omega
   ·dsimp only at q1 q3
    rw [q2,cond_false,Nat.add_zero] at HC
    go_wp2_with fail
    go_roundw
    case rel=>exact ⟨k+1,by omega,by go_num,by rw [HC.out];rfl,HB⟩
    case measure=>simp [intOf];omega
   ·dsimp only at q1 q3
    rw [q2,cond_true] at HC
    generalize cnt (ds.take k) a m=C at *
    go_wp2_with fail
    go_roundw
    case rel=>exact ⟨k+1,by omega,by go_num,by rw [HC.out];go_num,HB⟩
    case measure=>simp [intOf];omega
  ·have hlt2:¬(k:Int)<(n:Int):=by omega
   obtain rfl:k=n:=by omega
   go_wp2_with fail
   go_ret
   exact ⟨rfl,HB.out⟩
set_option maxRecDepth 100000 in
set_option maxHeartbeats 4000000 in
theorem ssum (ao:Option Addr) (cap:Nat) (ds:List D) (a:ByteArray) (m:Int) (w:World) (hlen:ds.length≤30) (hS:SOk ds ds.length) (hI:Dcs ao ds w) :
 Calls Tryz.prog 109 #[.slice ao ds.length cap,.string a,.int .i64 m] w fun e w'=>∃v,e=.returned v∧OwnN w' w.heap.size v (net ds a m)∧Below w.heap.size w w':=by
 have HI:=H_ hI
 have HS:=H_ hS
 obtain ⟨len,hl⟩:∃len,len=ds.length:=⟨_,rfl⟩
 have HEND:Hid (net (ds.take len) a m=net ds a m):=H_ (by rw [hl,List.take_length])
 rw [←hl] at hlen ⊢
 have HL:=H_ hl
 have HE:=H_ (own_empty w w.heap.size 209 2 (Nat.le_refl _))
 clear hI hl hS
 go_enter Tryz.func109,Tryz.ntmps109
 go_wp2_with fail
 go_loopw [7,8] (fun v z wr=>∃k:Nat,k≤len∧z=.int .i64 k∧Hid (OwnN wr w.heap.size v (net (ds.take k) a m))∧Hid (Below w.heap.size w wr)) (fun v z _=>len-(intOf z).toNat)
 case atStart=>exact ⟨0,by omega,rfl,H_ ⟨HE.out,fun e=>by cases e⟩,H_ (al _ _)⟩
 case round =>
  obtain ⟨k,hk,rfl,HV,HB⟩:=hrel
  by_cases hlt:k<len
  ·have hlt2:(k:Int)<(len:Int):=by omega
   have hkl:k<ds.length:=by have:=HL.out;omega
   obtain ⟨b,off,la,lc,rfl,hbl,c0,c1,c2,c3,hLi⟩:=(HI.out.below HB.out).at k hkl
   have HLi:=H_ hLi
   have HNM:=H_ (net_more ds k hkl a m)
   have HNF:=H_ (net_facts (ds:=ds) k (by omega) (fun i hi=>HS.out i (by omega)) a m)
   have HRG:=H_ (dB_lines (HS.out k hkl).1)
   have HO:=H_ (of_cases a m (ds.getD k D.zero))
   clear hLi
   generalize ds.getD k D.zero=X at *
   obtain ⟨xa,xm,xs,xl⟩:=X
   dsimp only at c0 c1 c3
   rcases HO.out with ⟨q1,q2⟩|⟨q1,q3,q2⟩|⟨q1,q3,q2⟩
   ·dsimp only at q1
    rw [q2,cond_false] at HNM
    go_wp2_with fail
    go_roundw
    case rel=>exact ⟨k+1,by omega,by go_num,H_ (by rw [HNM.out];exact HV.out),HB⟩
    case measure=>simp [intOf];omega
   ·dsimp only at q1 q3
    rw [q2,cond_false] at HNM
    go_wp2_with fail
    go_roundw
    case rel=>exact ⟨k+1,by omega,by go_num,H_ (by rw [HNM.out];exact HV.out),HB⟩
    case measure=>simp [intOf];omega
   ·dsimp only at q1 q3
    rw [q2,cond_true] at HNM
    obtain ⟨g,cp,rfl,g1,g2,g3,g4,g5⟩:=HV.out.open
    have h6:xl.length≤6:=HRG.out.1
    have HAD:=H_ (sadd g 0 cp (net (ds.take k) a m) la lc xl 1 (6000000000000000*(k:Int)) wr (.inl rfl) (by omega) (right_bd HRG.out) HNF.out.1 (by have:=HNF.out.2.1;omega) (by omega) HNF.out.2.2 g5 HLi.out)
    generalize net (ds.take k) a m=NL at *
    generalize xl.length=ll at *
    generalize NL.length=nl at *
    clear g5
    go_wp2_with fail
    refine HAD.out.mono ?_
    rintro e w2 ⟨v,rfl,hv,hb⟩
    have HV2:Hid (OwnN w2 w.heap.size v (all NL xl 1)):=H_ ⟨own_low hv.1 HB.out.size,hv.2⟩
    have HB2:=H_ (HB.out.trans (hb.mono HB.out.size))
    clear hv hb
    go_wp2_with fail
    go_roundw
    case rel=>exact ⟨k+1,by omega,by go_num,H_ (by rw [HNM.out];exact HV2.out),HB2⟩
    case measure=>simp [intOf];omega
  ·have hlt2:¬(k:Int)<(len:Int):=by omega
   obtain rfl:k=len:=by omega
   rw [HEND.out] at HV
   go_wp2_with fail
   go_ret
   exact ⟨_,rfl,HV.out,HB.out⟩
end LedR
end Go.Proofs.YtnceeaccbcfopaaGreatDoor
