/-
  What the program calls a name is what the model calls one, of every text of at most 1048576 bytes. No condition.
-/
import Derived.Test.YtnceeaccbcfopaaGreatDoorT18
namespace Go.Proofs.YtnceeaccbcfopaaGreatDoor
open Go.ChangeShapes Go.WideShapes Go.ChangeAt Go.RowKit
open Go.ChangeMaps (open_string shut_string)
namespace NameR
def okAt (i:Nat) (c:Int):Bool:=decide ((97≤c∧c≤122)∨(i≠0∧((48≤c∧c≤57)∨c=95)))
def upTo (s:ByteArray) (k:Nat):Prop:=∀i (h:i<s.size),i<k→okAt i (s[i].toNat:Int)=true
def upToDec (s:ByteArray) (k:Nat):Decidable (upTo s k):=inferInstanceAs (Decidable (∀i (h:i<s.size),i<k→okAt i (s[i].toNat:Int)=true))
def nameB (s:ByteArray):Bool:=@decide (1≤s.size∧s.size≤20∧upTo s s.size) (@instDecidableAnd _ _ _ (@instDecidableAnd _ _ _ (upToDec s s.size)))
theorem name_size {s:ByteArray} (h:s.size<1∨20<s.size):nameB s=false:=by
 unfold nameB;simp;intro h1 h2;omega
theorem name_no {s:ByteArray} {k:Nat} (h:k<s.size) (hb:okAt k (s[k].toNat:Int)=false):nameB s=false:=by
 unfold nameB;simp;intro _ _ hu;have:=hu k h h;simp [hb] at this
theorem name_yes {s:ByteArray} (h1:1≤s.size) (h2:s.size≤20) (hu:upTo s s.size):nameB s=true:=by
 unfold nameB;simp;exact ⟨h1,h2,hu⟩
theorem upTo_zero (s:ByteArray):upTo s 0:=fun _ _ h=>absurd h (by omega)
theorem upTo_succ {s:ByteArray} {k:Nat} (hu:upTo s k) (h:k<s.size) (hb:okAt k (s[k].toNat:Int)=true):upTo s (k+1):=by
 intro i hi hk
 by_cases e:i=k
 ·subst e;exact hb
 ·exact hu i hi (by omega)
set_option maxHeartbeats 2000000 in
theorem spec_any (s:ByteArray) (w:World) (hs:s.size≤1048576) :
 Calls Tryz.prog 104 #[.string s] w fun e w'=>e=.returned (.bool (nameB s))∧w'=w:=by
 by_cases h1:s.size<1
 ·have hn:=name_size (s:=s) (.inl h1)
  rw [hn]
  go_enter Tryz.func104,Tryz.ntmps104
  go_wp2
  go_ret
  exact ⟨rfl,rfl⟩
 by_cases h2:20<s.size
 ·have hn:=name_size (s:=s) (.inr h2)
  rw [hn]
  go_enter Tryz.func104,Tryz.ntmps104
  go_wp2
  go_ret
  exact ⟨rfl,rfl⟩
 go_enter Tryz.func104,Tryz.ntmps104
 go_wp2
 go_loop [3,4] (fun i _=>∃k:Nat,k≤s.size∧i=.int .i64 k∧upTo s k) (fun i _=>s.size-(intOf i).toNat)
 case atStart=>exact ⟨0,Nat.zero_le _,rfl,upTo_zero s⟩
 case round =>
  obtain ⟨k,hk,rfl,hu⟩:=hrel
  by_cases hlt:k<s.size
  ·have hno:=name_no (s:=s) hlt
   have hyes:=upTo_succ hu hlt
   have HN:Hid (okAt k (s[k].toNat:Int)=false→nameB s=false):=hno
   have HY:Hid (okAt k (s[k].toNat:Int)=true→upTo s (k+1)):=hyes
   clear hno hyes hu
   by_cases hk0:k=0
   ·subst hk0
    rcases (show ((s[0].toNat:Int)<48)∨(48≤(s[0].toNat:Int)∧(s[0].toNat:Int)≤57)∨(57<(s[0].toNat:Int)∧(s[0].toNat:Int)<95)∨(95≤(s[0].toNat:Int)∧(s[0].toNat:Int)≤95)∨(95<(s[0].toNat:Int)∧(s[0].toNat:Int)<97)∨(97≤(s[0].toNat:Int)∧(s[0].toNat:Int)≤122)∨122<(s[0].toNat:Int) from by omega) with hc|hc|hc|hc|hc|hc|hc
    all_goals
     (first|have a0:(97:Int)≤(s[0].toNat:Int):=by omega|have a0:¬(97:Int)≤(s[0].toNat:Int):=by omega)
     (first|have a1:(s[0].toNat:Int)≤122:=by omega|have a1:¬(s[0].toNat:Int)≤122:=by omega)
     (first|have a2:(48:Int)≤(s[0].toNat:Int):=by omega|have a2:¬(48:Int)≤(s[0].toNat:Int):=by omega)
     (first|have a3:(s[0].toNat:Int)≤57:=by omega|have a3:¬(s[0].toNat:Int)≤57:=by omega)
     (first|have a5:((s[0].toNat:Int) != 95)=true:=by simp;omega|have a5:((s[0].toNat:Int) != 95)=false:=by simp;omega)
     (first|have a6:((s[0].toNat:Int)==95)=true:=by simp;omega|have a6:((s[0].toNat:Int)==95)=false:=by simp;omega)
     go_wp2
     first
      | (go_ret;exact ⟨ret_bool (HN.out (by unfold okAt;simp;omega)).symm,rfl⟩)
      | (
       go_round
       case rel=>exact ⟨1,by omega,by go_num,HY.out (by unfold okAt;simp;omega)⟩
       case measure=>simp [intOf];omega)
   ·rcases (show ((s[k].toNat:Int)<48)∨(48≤(s[k].toNat:Int)∧(s[k].toNat:Int)≤57)∨(57<(s[k].toNat:Int)∧(s[k].toNat:Int)<95)∨(95≤(s[k].toNat:Int)∧(s[k].toNat:Int)≤95)∨(95<(s[k].toNat:Int)∧(s[k].toNat:Int)<97)∨(97≤(s[k].toNat:Int)∧(s[k].toNat:Int)≤122)∨122<(s[k].toNat:Int) from by omega) with hc|hc|hc|hc|hc|hc|hc
    all_goals
     (first|have a0:(97:Int)≤(s[k].toNat:Int):=by omega|have a0:¬(97:Int)≤(s[k].toNat:Int):=by omega)
     (first|have a1:(s[k].toNat:Int)≤122:=by omega|have a1:¬(s[k].toNat:Int)≤122:=by omega)
     (first|have a2:(48:Int)≤(s[k].toNat:Int):=by omega|have a2:¬(48:Int)≤(s[k].toNat:Int):=by omega)
     (first|have a3:(s[k].toNat:Int)≤57:=by omega|have a3:¬(s[k].toNat:Int)≤57:=by omega)
     (first|have a5:((s[k].toNat:Int) != 95)=true:=by simp;omega|have a5:((s[k].toNat:Int) != 95)=false:=by simp;omega)
     (first|have a6:((s[k].toNat:Int)==95)=true:=by simp;omega|have a6:((s[k].toNat:Int)==95)=false:=by simp;omega)
     have a7:((k:Int)==0)=false:=by simp;omega
     go_wp2
     first
      | (go_ret;exact ⟨ret_bool (HN.out (by unfold okAt;simp;omega)).symm,rfl⟩)
      | (
       go_round
       case rel=>exact ⟨k+1,by omega,by go_num,HY.out (by unfold okAt;simp;omega)⟩
       case measure=>simp [intOf];omega)
  ·go_wp2
   go_ret
   have:k=s.size:=by omega
   subst this
   exact ⟨ret_bool (name_yes (by omega) (by omega) hu).symm,rfl⟩
set_option maxHeartbeats 2000000 in
theorem impl_any (s:ByteArray) (w:World) (hs:s.size≤1048576) :
 Calls Tryz.prog 166 #[.string s] w fun e w'=>e=.returned (.bool (nameB s))∧w'=w:=by
 by_cases h1:s.size<1
 ·have hn:=name_size (s:=s) (.inl h1)
  rw [hn]
  go_enter Tryz.func166,Tryz.ntmps166
  go_wp2
  go_ret
  exact ⟨rfl,rfl⟩
 by_cases h2:20<s.size
 ·have hn:=name_size (s:=s) (.inr h2)
  rw [hn]
  go_enter Tryz.func166,Tryz.ntmps166
  go_wp2
  go_ret
  exact ⟨rfl,rfl⟩
 go_enter Tryz.func166,Tryz.ntmps166
 go_wp2
 go_loop [3,4,5] (fun i _ _=>∃k:Nat,k≤s.size∧i=.int .i64 k∧upTo s k) (fun i _ _=>s.size-(intOf i).toNat)
 case atStart=>exact ⟨0,Nat.zero_le _,rfl,upTo_zero s⟩
 case round =>
  obtain ⟨k,hk,rfl,hu⟩:=hrel
  by_cases hlt:k<s.size
  ·have hno:=name_no (s:=s) hlt
   have hyes:=upTo_succ hu hlt
   have HN:Hid (okAt k (s[k].toNat:Int)=false→nameB s=false):=hno
   have HY:Hid (okAt k (s[k].toNat:Int)=true→upTo s (k+1)):=hyes
   clear hno hyes hu
   by_cases hk0:k=0
   ·subst hk0
    rcases (show ((s[0].toNat:Int)<48)∨(48≤(s[0].toNat:Int)∧(s[0].toNat:Int)≤57)∨(57<(s[0].toNat:Int)∧(s[0].toNat:Int)<95)∨(95≤(s[0].toNat:Int)∧(s[0].toNat:Int)≤95)∨(95<(s[0].toNat:Int)∧(s[0].toNat:Int)<97)∨(97≤(s[0].toNat:Int)∧(s[0].toNat:Int)≤122)∨122<(s[0].toNat:Int) from by omega) with hc|hc|hc|hc|hc|hc|hc
    all_goals
     (first|have a0:(97:Int)≤(s[0].toNat:Int):=by omega|have a0:¬(97:Int)≤(s[0].toNat:Int):=by omega)
     (first|have a1:(s[0].toNat:Int)≤122:=by omega|have a1:¬(s[0].toNat:Int)≤122:=by omega)
     (first|have a2:(48:Int)≤(s[0].toNat:Int):=by omega|have a2:¬(48:Int)≤(s[0].toNat:Int):=by omega)
     (first|have a3:(s[0].toNat:Int)≤57:=by omega|have a3:¬(s[0].toNat:Int)≤57:=by omega)
     (first|have a5:((s[0].toNat:Int) != 95)=true:=by simp;omega|have a5:((s[0].toNat:Int) != 95)=false:=by simp;omega)
     (first|have a6:((s[0].toNat:Int)==95)=true:=by simp;omega|have a6:((s[0].toNat:Int)==95)=false:=by simp;omega)
     go_wp2
     first
      | (go_ret;exact ⟨ret_bool (HN.out (by unfold okAt;simp;omega)).symm,rfl⟩)
      | (
       go_round
       case rel=>exact ⟨1,by omega,by go_num,HY.out (by unfold okAt;simp;omega)⟩
       case measure=>simp [intOf];omega)
   ·rcases (show ((s[k].toNat:Int)<48)∨(48≤(s[k].toNat:Int)∧(s[k].toNat:Int)≤57)∨(57<(s[k].toNat:Int)∧(s[k].toNat:Int)<95)∨(95≤(s[k].toNat:Int)∧(s[k].toNat:Int)≤95)∨(95<(s[k].toNat:Int)∧(s[k].toNat:Int)<97)∨(97≤(s[k].toNat:Int)∧(s[k].toNat:Int)≤122)∨122<(s[k].toNat:Int) from by omega) with hc|hc|hc|hc|hc|hc|hc
    all_goals
     (first|have a0:(97:Int)≤(s[k].toNat:Int):=by omega|have a0:¬(97:Int)≤(s[k].toNat:Int):=by omega)
     (first|have a1:(s[k].toNat:Int)≤122:=by omega|have a1:¬(s[k].toNat:Int)≤122:=by omega)
     (first|have a2:(48:Int)≤(s[k].toNat:Int):=by omega|have a2:¬(48:Int)≤(s[k].toNat:Int):=by omega)
     (first|have a3:(s[k].toNat:Int)≤57:=by omega|have a3:¬(s[k].toNat:Int)≤57:=by omega)
     (first|have a5:((s[k].toNat:Int) != 95)=true:=by simp;omega|have a5:((s[k].toNat:Int) != 95)=false:=by simp;omega)
     (first|have a6:((s[k].toNat:Int)==95)=true:=by simp;omega|have a6:((s[k].toNat:Int)==95)=false:=by simp;omega)
     have a7:((k:Int)==0)=false:=by simp;omega
     go_wp2
     first
      | (go_ret;exact ⟨ret_bool (HN.out (by unfold okAt;simp;omega)).symm,rfl⟩)
      | (
       go_round
       case rel=>exact ⟨k+1,by omega,by go_num,HY.out (by unfold okAt;simp;omega)⟩
       case measure=>simp [intOf];omega)
  ·go_wp2
   go_ret
   have:k=s.size:=by omega
   subst this
   exact ⟨ret_bool (name_yes (by omega) (by omega) hu).symm,rfl⟩
end NameR
end Go.Proofs.YtnceeaccbcfopaaGreatDoor
