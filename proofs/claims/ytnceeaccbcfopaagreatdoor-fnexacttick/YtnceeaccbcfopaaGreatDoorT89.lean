/-
  What the program calls right credits. The condition: at most 1048576 of them, each account of at most 1048576 bytes.
-/
import Derived.Test.YtnceeaccbcfopaaGreatDoorT88
namespace Go.Proofs.YtnceeaccbcfopaaGreatDoor
open Go.ChangeShapes Go.WideShapes Go.ChangeAt Go.RowKit
set_option linter.unusedVariables false
namespace CatR
def cP (cs:List Cr):Nat→ByteArray
 | 0=>⟨#[]⟩
 | k+1=>cA cs k
theorem leq_yes {a p:ByteArray} (h:(Op.bytesLess a.toList p.toList||(a.toList==p.toList))=true):lt p a=false:=by
 rw [Bool.or_eq_true] at h
 rcases h with h|h
 ·exact lt_asymm h
 ·rw [toList_inj (beq_iff_eq.1 h)];exact lt_irrefl _
theorem leq_no {a p:ByteArray} (h:(Op.bytesLess a.toList p.toList||(a.toList==p.toList))=false):lt p a=true:=by
 rw [Bool.or_eq_false_iff] at h
 cases h2:lt p a
 ·have:=lt_total h2 h.1
  rw [this] at h
  simp at h
 ·rfl
theorem cs_le {cs:List Cr} {k:Nat} (hk:k<cs.length) (h:(Op.bytesLess (cA cs k).toList (cP cs k).toList||((cA cs k).toList==(cP cs k).toList))=true):csB cs=false:=by
 have h2:=leq_yes h
 match k,hk,h2 with
 | 0,hk,h2 =>
  refine cs_name hk ?_
  apply NameR.name_size
  rcases Nat.lt_or_ge (cA cs 0).size 1 with h3|h3
  ·exact .inl h3
  ·have:=lt_empty h3
   rw [show lt ⟨#[]⟩ (cA cs 0)=lt (cP cs 0) (cA cs 0) from rfl,h2] at this
   cases this
 | k+1,hk,h2=>exact cs_flat hk (by omega) h2
theorem cs_go {cs:List Cr} {k:Nat} (h:COk cs k) (hl:(Op.bytesLess (cA cs k).toList (cP cs k).toList||((cA cs k).toList==(cP cs k).toList))=false) (hn:NameR.nameB (cA cs k)=true) (hm:0≤cM cs k∧cM cs k≤1000000000000):COk cs (k+1):=by
 refine h.more hn hm (fun h0=>?_)
 have h2:=leq_no hl
 match k,h0,h2 with
 | k+1,_,h2=>exact h2
set_option maxRecDepth 100000 in
set_option maxHeartbeats 8000000 in
theorem impl_cs (ao:Option Addr) (len cap:Nat) (cs:List Cr) (w:World) (hlen:len≤1048576) (hS:∀i,i<len→(cs.getD i Cr.zero).a.size≤1048576) (hI:Crs ao len cs w) :
 Calls Tryz.prog 121 #[.slice ao len cap] w fun e w'=>e=.returned (.bool (csB cs))∧Below w.heap.size w w':=by
 have hz:=hI.1
 by_cases h6:6<len
 ·have h6':(6:Int)<(len:Int):=by omega
  have HR:=H_ (cs_many (cs:=cs) (by omega))
  clear hI hS
  go_enter Tryz.func121,Tryz.ntmps121
  go_wp2_with fail
  go_ret
  exact ⟨ret_bool HR.out.symm,Below.refl _ _⟩
 ·have h6':¬(6:Int)<(len:Int):=by omega
  have HI:=H_ hI
  have HS:=H_ hS
  have HZ:=H_ hz
  clear hI hS
  go_enter Tryz.func121,Tryz.ntmps121
  go_wp2_with fail
  go_loopw [3,11] (fun x z wr=>∃k:Nat,k≤len∧x=.string (cP cs k)∧z=.int .i64 k∧Hid (COk cs k)∧Hid (Below w.heap.size w wr)) (fun x z _=>len-(intOf z).toNat)
  case atStart=>exact ⟨0,by omega,rfl,rfl,H_ (COk.zero cs),H_ (Below.refl _ _)⟩
  case round =>
   obtain ⟨k,hk,rfl,rfl,HK,HB⟩:=hrel
   by_cases hlt:k<len
   ·have hlt2:(k:Int)<(len:Int):=by omega
    have hkl:k<cs.length:=by have:=HZ.out;omega
    obtain ⟨b,off,rfl,hbl,d0,d1⟩:=crs_at (HI.out.below HB.out) k hlt
    have c0:wr.cell? ⟨b,off+k*2,none⟩=some (.string (cA cs k)):=d0
    have c1:wr.cell? ⟨b,off+k*2+1,none⟩=some (.int .i64 (cM cs k)):=d1
    clear d0 d1
    have hsz:(cA cs k).size≤1048576:=HS.out k hlt
    have HN:=H_ (fun w=>NameR.impl_any (cA cs k) w hsz)
    have HW:=H_ (fun w=>within64 (cM cs k) 0 1000000000000 w)
    have HLE:=H_ (cs_le hkl)
    have HNA:=H_ (cs_name hkl)
    have HMI:=H_ (cs_micro hkl)
    have HGO:=H_ (cs_go HK.out)
    have HP:Hid (cP cs (k+1)=cA cs k):=rfl
    generalize NameR.nameB (cA cs k)=r at *
    generalize cA cs k=a at *
    generalize cP cs k=p at *
    generalize cM cs k=m at *
    have HAl:=H_ (fun o=>HB.out.alloc HB.out.size o)
    cases hle:(Op.bytesLess a.toList p.toList||(a.toList==p.toList))
    ·cases r
     ·have HR:=H_ (HNA.out rfl)
      go_wp2_with (first|(go_at_call 166;refine (HN.out _).mono ?_;rintro e w' ⟨rfl,rfl⟩)|(go_at_call 30;refine (HW.out _).mono ?_;rintro e w' ⟨rfl,rfl⟩))
      go_ret
      exact ⟨ret_bool HR.out.symm,HAl.out _⟩
     ·by_cases hm:0≤m∧m≤1000000000000
      ·have HM:=H_ (HGO.out hle rfl hm)
       rw [decide_eq_true hm] at HW
       go_wp2_with (first|(go_at_call 166;refine (HN.out _).mono ?_;rintro e w' ⟨rfl,rfl⟩)|(go_at_call 30;refine (HW.out _).mono ?_;rintro e w' ⟨rfl,rfl⟩))
       go_roundw
       case rel=>exact ⟨k+1,by omega,by rw [HP.out],by go_num,HM,H_ (HAl.out _)⟩
       case measure=>simp [intOf];omega
      ·have HR:=H_ (HMI.out hm)
       rw [decide_eq_false hm] at HW
       go_wp2_with (first|(go_at_call 166;refine (HN.out _).mono ?_;rintro e w' ⟨rfl,rfl⟩)|(go_at_call 30;refine (HW.out _).mono ?_;rintro e w' ⟨rfl,rfl⟩))
       go_ret
       exact ⟨ret_bool HR.out.symm,HAl.out _⟩
    ·have HR:=H_ (HLE.out hle)
     go_wp2_with fail
     go_ret
     exact ⟨ret_bool HR.out.symm,HAl.out _⟩
   ·obtain rfl:k=len:=by omega
    have HR:Hid (csB cs=true):=H_ (cs_end (by have:=HZ.out;omega) (by rw [HZ.out];exact HK.out))
    go_wp2_with fail
    go_ret
    exact ⟨ret_bool HR.out.symm,HB.out⟩
end CatR
end Go.Proofs.YtnceeaccbcfopaaGreatDoor
