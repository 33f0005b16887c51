/-
  What the model calls a window's right tags. The conditions: at most 1048576 tags of at most 1048576 bytes.
-/
import Derived.Test.YtnceeaccbcfopaaGreatDoorT103
namespace Go.Proofs.YtnceeaccbcfopaaGreatDoor
open Go.ChangeShapes Go.WideShapes Go.ChangeAt Go.RowKit
set_option linter.unusedVariables false
namespace WinR
open RowG LtR
theorem tag_word (X:ByteArray):(WordR.printB X&&decide ((X.size:Int)≤10))=EvtR.tagB X:=by
 unfold EvtR.tagB
 rw [Bool.and_comm]
 congr 1
 exact decide_eq_decide.2 (by omega)
theorem ok_none {X:ByteArray} (h:X.size=0):tagOk X=false:=by unfold tagOk;rw [decide_eq_false (by omega),Bool.false_and]
theorem ok_some {X:ByteArray} (h:X.size≠0):tagOk X=EvtR.tagB X:=by unfold tagOk;rw [decide_eq_true (by omega),Bool.true_and]
set_option maxRecDepth 100000 in
set_option maxHeartbeats 4000000 in
theorem spec_tags (ao:Option Addr) (cap:Nat) (ts:List ByteArray) (w:World) (hlen:ts.length≤1048576) (hS:∀t∈ts,t.size≤1048576) (hI:Tgs ao ts w) :
 Calls Tryz.prog 110 #[.slice ao ts.length cap] w fun e w'=>e=.returned (.bool (tagsB ts))∧Below w.heap.size w w':=by
 have HI:=H_ hI
 have HS:=H_ hS
 have HBA:=H_ (fun k=>tags_bad (ts:=ts) (k:=k))
 have HDO:=H_ (tags_done (ts:=ts))
 generalize tagsB ts=R at *
 obtain ⟨len,hl⟩:∃len,len=ts.length:=⟨_,rfl⟩
 rw [←hl] at hlen ⊢
 have HL:=H_ hl
 clear hI hl hS
 go_enter Tryz.func110,Tryz.ntmps110
 go_wp2_with fail
 go_loopw [3] (fun z wr=>∃k:Nat,k≤len∧z=.int .i64 k∧Hid (TUp ts k)∧Hid (Below w.heap.size w wr)) (fun z _=>len-(intOf z).toNat)
 case atStart=>exact ⟨0,by omega,rfl,H_ (TUp.zero ts),H_ (Below.refl _ _)⟩
 case round =>
  obtain ⟨k,hk,rfl,HK,HB⟩:=hrel
  by_cases hlt:k<len
  ·have hlt2:(k:Int)<(len:Int):=by omega
   have hkl:k<ts.length:=by have:=HL.out;omega
   obtain ⟨b,off,rfl,hbl,c0⟩:=(HI.out.below HB.out).at k hkl
   have hsz:=HS.out _ (getD_mem (z:=tz) ts k hkl)
   have H1:=H_ (fun w=>WordR.spec_word (ts.getD k tz) 10 w hsz)
   rw [tag_word] at H1
   have HB1:=H_ (fun h=>HBA.out k hkl (.inl h))
   have HB2:=H_ (fun h0 h=>HBA.out k hkl (.inr ⟨h0,h⟩))
   have HM:=H_ (fun h1 h2=>HK.out.more hkl h1 h2)
   have HO0:=H_ (ok_none (X:=ts.getD k tz))
   have HO1:=H_ (ok_some (X:=ts.getD k tz))
   rcases (show k=0∨∃j,j+1=k from by rcases k with _|j;exact .inl rfl;exact .inr ⟨j,rfl⟩) with rfl|⟨j,hkj⟩
   ·simp only [Nat.add_zero] at c0
    generalize ts.getD 0 tz=X at *
    by_cases hi:X.size=0
    ·have he:=EvtR.empty_of X hi
     have HR:Hid (R=false):=H_ (HB1.out (HO0.out hi))
     go_wp2_with fail
     go_quiet ((go_at_call 105;exact Calls.quiet_of_same (H1.out _)))
     go_wp2_with fail
     go_ret
     exact ⟨ret_bool HR.out.symm,bdN HB.out _⟩
    ·obtain ⟨he,he2⟩:=EvtR.full_of X hi
     have HO2:=H_ (HO1.out hi)
     generalize EvtR.tagB X=g at *
     cases g
     ·have HR:Hid (R=false):=H_ (HB1.out HO2.out)
      go_wp2_with fail
      go_quiet ((go_at_call 105;exact Calls.quiet_of_same (H1.out _)))
      go_wp2_with fail
      go_ret
      exact ⟨ret_bool HR.out.symm,bdN HB.out _⟩
     ·have HM2:=H_ (HM.out HO2.out (fun h=>absurd h (by omega)))
      go_wp2_with fail
      go_quiet ((go_at_call 105;exact Calls.quiet_of_same (H1.out _)))
      go_wp2_with fail
      go_roundw
      case rel=>exact ⟨0+1,by omega,by go_num,HM2,H_ (bdN HB.out _)⟩
      case measure=>simp [intOf];omega
   ·obtain ⟨b',off',hbo,hbl',d0⟩:=(HI.out.below HB.out).at j (by omega)
    obtain ⟨rfl,rfl⟩:b=b'∧off=off':=by simpa using hbo
    have hj1:IntKind.i64.wrap ((k:Int)-1)=(j:Int):=by rw [IntKind.wrap_i64];omega
    have hj2:0<k:=by omega
    have hj3:(j:Int)<(len:Int):=by omega
    rw [show k-1=j by omega] at HB2 HM
    clear hbl' hbo hkj
    generalize ts.getD k tz=X at *
    generalize ts.getD j tz=Y at *
    by_cases hi:X.size=0
    ·have he:=EvtR.empty_of X hi
     have HR:Hid (R=false):=H_ (HB1.out (HO0.out hi))
     go_wp2_with fail
     go_quiet ((go_at_call 105;exact Calls.quiet_of_same (H1.out _)))
     go_wp2_with fail
     go_ret
     exact ⟨ret_bool HR.out.symm,bdN HB.out _⟩
    ·obtain ⟨he,he2⟩:=EvtR.full_of X hi
     have HO2:=H_ (HO1.out hi)
     generalize EvtR.tagB X=g at *
     cases g
     ·have HR:Hid (R=false):=H_ (HB1.out HO2.out)
      go_wp2_with fail
      go_quiet ((go_at_call 105;exact Calls.quiet_of_same (H1.out _)))
      go_wp2_with fail
      go_ret
      exact ⟨ret_bool HR.out.symm,bdN HB.out _⟩
     ·cases hq:Op.bytesLess Y.toList X.toList
      ·have HR:Hid (R=false):=H_ (HB2.out hj2 hq)
       go_wp2_with fail
       go_quiet ((go_at_call 105;exact Calls.quiet_of_same (H1.out _)))
       go_wp2_with fail
       go_ret
       exact ⟨ret_bool HR.out.symm,bdN HB.out _⟩
      ·have HM2:=H_ (HM.out HO2.out (fun _=>hq))
       go_wp2_with fail
       go_quiet ((go_at_call 105;exact Calls.quiet_of_same (H1.out _)))
       go_wp2_with fail
       go_roundw
       case rel=>exact ⟨k+1,by omega,by go_num,HM2,H_ (bdN HB.out _)⟩
       case measure=>simp [intOf];omega
  ·have hlt2:¬(k:Int)<(len:Int):=by omega
   obtain rfl:k=len:=by omega
   have HR:Hid (R=decide (k≤12)):=H_ (by rw [HDO.out (by rw [←HL.out];exact HK.out),←HL.out])
   by_cases h12:k≤12
   ·rw [decide_eq_true h12] at HR
    have h12':(k:Int)≤12:=by omega
    go_wp2_with fail
    go_ret
    exact ⟨ret_bool HR.out.symm,HB.out⟩
   ·rw [decide_eq_false h12] at HR
    have h12':¬(k:Int)≤12:=by omega
    go_wp2_with fail
    go_ret
    exact ⟨ret_bool HR.out.symm,HB.out⟩
end WinR
end Go.Proofs.YtnceeaccbcfopaaGreatDoor
