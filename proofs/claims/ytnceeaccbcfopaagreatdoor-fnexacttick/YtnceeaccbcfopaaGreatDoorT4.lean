/-
  What the program calls a name is what the model calls one, of every text of at most 1048576 bytes.
  The order of texts.
  Names of sources that are right: both sides say the same.
  A list of sources marked, its marks read; and what marking promises of lists of meters, of credits, of sources of one's own, and of lists that are none.
  Arithmetic alone: leap years, the days of months and years, and which year and month a day lies in.
  Arithmetic alone: the first day of a month that is counted from January 1970, and which month a right date lies in.
  A text of seen bytes alone (33 to 126): what the program says rune by rune and what the model says byte by byte.
  What a right Id and a minute are: both sides say the same.
  What a right event is: both sides say the same.
  The conditions stand in what each theorem says.
-/
import Derived.Deep.RegionHeld3
import Derived.BigQuiet
import Derived.Deep.QuietTactic
import Derived.Laws.RangeAny
import Derived.Test.YtnceeaccbcfopaaGreatDoorT3
set_option maxRecDepth 100000
set_option maxHeartbeats 16000000
namespace Go.Proofs.YtnceeaccbcfopaaGreatDoor
open Go.ChangeShapes Go.WideShapes Go.ChangeAt Go.RowKit
open Go.ChangeMaps (open_string shut_string)
namespace NameR
def okAt (i:Nat) (c:Int):Bool:=decide ((97≤c∧c≤122)∨(i≠0∧((48≤c∧c≤57)∨c=95)))
def upTo (s:ByteArray) (k:Nat):Prop:=∀i (h:i<s.size),i<k→okAt i (s[i].toNat:Int)=true
def upToDec (s:ByteArray) (k:Nat):Decidable (upTo s k):=inferInstanceAs (Decidable (∀i (h:i<s.size),i<k→okAt i (s[i].toNat:Int)=true))
def nameB (s:ByteArray):Bool:=@decide (1≤s.size∧s.size≤20∧upTo s s.size) (@instDecidableAnd _ _ _ (@instDecidableAnd _ _ _ (upToDec s s.size)))
theorem name_size {s:ByteArray} (h:s.size<1∨20<s.size):nameB s=false:=by
 unfold nameB;simp;intro h1 h2;omega
theorem name_no {s:ByteArray} {k:Nat} (h:k<s.size) (hb:okAt k (s[k].toNat:Int)=false):nameB s=false:=by
 unfold nameB;simp;intro _ _ hu;have:=hu k h h;simp [hb] at this
theorem name_yes {s:ByteArray} (h1:1≤s.size) (h2:s.size≤20) (hu:upTo s s.size):nameB s=true:=by
 unfold nameB;simp;exact ⟨h1,h2,hu⟩
theorem upTo_zero (s:ByteArray):upTo s 0:=fun _ _ h=>absurd h (by omega)
theorem upTo_succ {s:ByteArray} {k:Nat} (hu:upTo s k) (h:k<s.size) (hb:okAt k (s[k].toNat:Int)=true):upTo s (k+1):=by
 intro i hi hk
 by_cases e:i=k
 ·subst e;exact hb
 ·exact hu i hi (by omega)
theorem spec_any (s:ByteArray) (w:World) (hs:s.size≤1048576) :
 Calls Tryz.prog 104 #[.string s] w fun e w'=>e=.returned (.bool (nameB s))∧w'=w:=by
 by_cases h1:s.size<1
 ·have hn:=name_size (s:=s) (.inl h1)
  rw [hn]
  go_enter Tryz.func104,Tryz.ntmps104
  go_wp2
  go_ret
  exact ⟨rfl,rfl⟩
 by_cases h2:20<s.size
 ·have hn:=name_size (s:=s) (.inr h2)
  rw [hn]
  go_enter Tryz.func104,Tryz.ntmps104
  go_wp2
  go_ret
  exact ⟨rfl,rfl⟩
 go_enter Tryz.func104,Tryz.ntmps104
 go_wp2
 go_loop [3,4] (fun i _=>∃k:Nat,k≤s.size∧i=.int .i64 k∧upTo s k) (fun i _=>s.size-(intOf i).toNat)
 case atStart=>exact ⟨0,Nat.zero_le _,rfl,upTo_zero s⟩
 case round =>
  obtain ⟨k,hk,rfl,hu⟩:=hrel
  by_cases hlt:k<s.size
  ·have hno:=name_no (s:=s) hlt
   have hyes:=upTo_succ hu hlt
   have HN:Hid (okAt k (s[k].toNat:Int)=false→nameB s=false):=hno
   have HY:Hid (okAt k (s[k].toNat:Int)=true→upTo s (k+1)):=hyes
   clear hno hyes hu
   by_cases hk0:k=0
   ·subst hk0
    rcases (show ((s[0].toNat:Int)<48)∨(48≤(s[0].toNat:Int)∧(s[0].toNat:Int)≤57)∨(57<(s[0].toNat:Int)∧(s[0].toNat:Int)<95)∨(95≤(s[0].toNat:Int)∧(s[0].toNat:Int)≤95)∨(95<(s[0].toNat:Int)∧(s[0].toNat:Int)<97)∨(97≤(s[0].toNat:Int)∧(s[0].toNat:Int)≤122)∨122<(s[0].toNat:Int) from by omega) with hc|hc|hc|hc|hc|hc|hc
    all_goals
     (first|have a0:(97:Int)≤(s[0].toNat:Int):=by omega|have a0:¬(97:Int)≤(s[0].toNat:Int):=by omega)
     (first|have a1:(s[0].toNat:Int)≤122:=by omega|have a1:¬(s[0].toNat:Int)≤122:=by omega)
     (first|have a2:(48:Int)≤(s[0].toNat:Int):=by omega|have a2:¬(48:Int)≤(s[0].toNat:Int):=by omega)
     (first|have a3:(s[0].toNat:Int)≤57:=by omega|have a3:¬(s[0].toNat:Int)≤57:=by omega)
     (first|have a5:((s[0].toNat:Int) != 95)=true:=by simp;omega|have a5:((s[0].toNat:Int) != 95)=false:=by simp;omega)
     (first|have a6:((s[0].toNat:Int)==95)=true:=by simp;omega|have a6:((s[0].toNat:Int)==95)=false:=by simp;omega)
     go_wp2
     first
      | (go_ret;exact ⟨ret_bool (HN.out (by unfold okAt;simp;omega)).symm,rfl⟩)
      | (
       go_round
       case rel=>exact ⟨1,by omega,by go_num,HY.out (by unfold okAt;simp;omega)⟩
       case measure=>simp [intOf];omega)
   ·rcases (show ((s[k].toNat:Int)<48)∨(48≤(s[k].toNat:Int)∧(s[k].toNat:Int)≤57)∨(57<(s[k].toNat:Int)∧(s[k].toNat:Int)<95)∨(95≤(s[k].toNat:Int)∧(s[k].toNat:Int)≤95)∨(95<(s[k].toNat:Int)∧(s[k].toNat:Int)<97)∨(97≤(s[k].toNat:Int)∧(s[k].toNat:Int)≤122)∨122<(s[k].toNat:Int) from by omega) with hc|hc|hc|hc|hc|hc|hc
    all_goals
     (first|have a0:(97:Int)≤(s[k].toNat:Int):=by omega|have a0:¬(97:Int)≤(s[k].toNat:Int):=by omega)
     (first|have a1:(s[k].toNat:Int)≤122:=by omega|have a1:¬(s[k].toNat:Int)≤122:=by omega)
     (first|have a2:(48:Int)≤(s[k].toNat:Int):=by omega|have a2:¬(48:Int)≤(s[k].toNat:Int):=by omega)
     (first|have a3:(s[k].toNat:Int)≤57:=by omega|have a3:¬(s[k].toNat:Int)≤57:=by omega)
     (first|have a5:((s[k].toNat:Int) != 95)=true:=by simp;omega|have a5:((s[k].toNat:Int) != 95)=false:=by simp;omega)
     (first|have a6:((s[k].toNat:Int)==95)=true:=by simp;omega|have a6:((s[k].toNat:Int)==95)=false:=by simp;omega)
     have a7:((k:Int)==0)=false:=by simp;omega
     go_wp2
     first
      | (go_ret;exact ⟨ret_bool (HN.out (by unfold okAt;simp;omega)).symm,rfl⟩)
      | (
       go_round
       case rel=>exact ⟨k+1,by omega,by go_num,HY.out (by unfold okAt;simp;omega)⟩
       case measure=>simp [intOf];omega)
  ·go_wp2
   go_ret
   have:k=s.size:=by omega
   subst this
   exact ⟨ret_bool (name_yes (by omega) (by omega) hu).symm,rfl⟩
theorem impl_any (s:ByteArray) (w:World) (hs:s.size≤1048576) :
 Calls Tryz.prog 166 #[.string s] w fun e w'=>e=.returned (.bool (nameB s))∧w'=w:=by
 by_cases h1:s.size<1
 ·have hn:=name_size (s:=s) (.inl h1)
  rw [hn]
  go_enter Tryz.func166,Tryz.ntmps166
  go_wp2
  go_ret
  exact ⟨rfl,rfl⟩
 by_cases h2:20<s.size
 ·have hn:=name_size (s:=s) (.inr h2)
  rw [hn]
  go_enter Tryz.func166,Tryz.ntmps166
  go_wp2
  go_ret
  exact ⟨rfl,rfl⟩
 go_enter Tryz.func166,Tryz.ntmps166
 go_wp2
 go_loop [3,4,5] (fun i _ _=>∃k:Nat,k≤s.size∧i=.int .i64 k∧upTo s k) (fun i _ _=>s.size-(intOf i).toNat)
 case atStart=>exact ⟨0,Nat.zero_le _,rfl,upTo_zero s⟩
 case round =>
  obtain ⟨k,hk,rfl,hu⟩:=hrel
  by_cases hlt:k<s.size
  ·have hno:=name_no (s:=s) hlt
   have hyes:=upTo_succ hu hlt
   have HN:Hid (okAt k (s[k].toNat:Int)=false→nameB s=false):=hno
   have HY:Hid (okAt k (s[k].toNat:Int)=true→upTo s (k+1)):=hyes
   clear hno hyes hu
   by_cases hk0:k=0
   ·subst hk0
    rcases (show ((s[0].toNat:Int)<48)∨(48≤(s[0].toNat:Int)∧(s[0].toNat:Int)≤57)∨(57<(s[0].toNat:Int)∧(s[0].toNat:Int)<95)∨(95≤(s[0].toNat:Int)∧(s[0].toNat:Int)≤95)∨(95<(s[0].toNat:Int)∧(s[0].toNat:Int)<97)∨(97≤(s[0].toNat:Int)∧(s[0].toNat:Int)≤122)∨122<(s[0].toNat:Int) from by omega) with hc|hc|hc|hc|hc|hc|hc
    all_goals
     (first|have a0:(97:Int)≤(s[0].toNat:Int):=by omega|have a0:¬(97:Int)≤(s[0].toNat:Int):=by omega)
     (first|have a1:(s[0].toNat:Int)≤122:=by omega|have a1:¬(s[0].toNat:Int)≤122:=by omega)
     (first|have a2:(48:Int)≤(s[0].toNat:Int):=by omega|have a2:¬(48:Int)≤(s[0].toNat:Int):=by omega)
     (first|have a3:(s[0].toNat:Int)≤57:=by omega|have a3:¬(s[0].toNat:Int)≤57:=by omega)
     (first|have a5:((s[0].toNat:Int) != 95)=true:=by simp;omega|have a5:((s[0].toNat:Int) != 95)=false:=by simp;omega)
     (first|have a6:((s[0].toNat:Int)==95)=true:=by simp;omega|have a6:((s[0].toNat:Int)==95)=false:=by simp;omega)
     go_wp2
     first
      | (go_ret;exact ⟨ret_bool (HN.out (by unfold okAt;simp;omega)).symm,rfl⟩)
      | (
       go_round
       case rel=>exact ⟨1,by omega,by go_num,HY.out (by unfold okAt;simp;omega)⟩
       case measure=>simp [intOf];omega)
   ·rcases (show ((s[k].toNat:Int)<48)∨(48≤(s[k].toNat:Int)∧(s[k].toNat:Int)≤57)∨(57<(s[k].toNat:Int)∧(s[k].toNat:Int)<95)∨(95≤(s[k].toNat:Int)∧(s[k].toNat:Int)≤95)∨(95<(s[k].toNat:Int)∧(s[k].toNat:Int)<97)∨(97≤(s[k].toNat:Int)∧(s[k].toNat:Int)≤122)∨122<(s[k].toNat:Int) from by omega) with hc|hc|hc|hc|hc|hc|hc
    all_goals
     (first|have a0:(97:Int)≤(s[k].toNat:Int):=by omega|have a0:¬(97:Int)≤(s[k].toNat:Int):=by omega)
     (first|have a1:(s[k].toNat:Int)≤122:=by omega|have a1:¬(s[k].toNat:Int)≤122:=by omega)
     (first|have a2:(48:Int)≤(s[k].toNat:Int):=by omega|have a2:¬(48:Int)≤(s[k].toNat:Int):=by omega)
     (first|have a3:(s[k].toNat:Int)≤57:=by omega|have a3:¬(s[k].toNat:Int)≤57:=by omega)
     (first|have a5:((s[k].toNat:Int) != 95)=true:=by simp;omega|have a5:((s[k].toNat:Int) != 95)=false:=by simp;omega)
     (first|have a6:((s[k].toNat:Int)==95)=true:=by simp;omega|have a6:((s[k].toNat:Int)==95)=false:=by simp;omega)
     have a7:((k:Int)==0)=false:=by simp;omega
     go_wp2
     first
      | (go_ret;exact ⟨ret_bool (HN.out (by unfold okAt;simp;omega)).symm,rfl⟩)
      | (
       go_round
       case rel=>exact ⟨k+1,by omega,by go_num,HY.out (by unfold okAt;simp;omega)⟩
       case measure=>simp [intOf];omega)
  ·go_wp2
   go_ret
   have:k=s.size:=by omega
   subst this
   exact ⟨ret_bool (name_yes (by omega) (by omega) hu).symm,rfl⟩
end NameR
end Go.Proofs.YtnceeaccbcfopaaGreatDoor
namespace Go.Proofs.YtnceeaccbcfopaaGreatDoor
open Go.RowKit
namespace LtR
open Op (bytesLess)
theorem bl_irrefl:∀x:List UInt8,bytesLess x x=false
 | []=>rfl
 | a::x=>by
  rw [bytesLess,bl_irrefl x]
  simp
theorem bl_trans:∀{x y z:List UInt8},bytesLess x y=true→bytesLess y z=true→bytesLess x z=true
 | _,[],_,h,_=>by simp [bytesLess] at h
 | _,_::_,[],_,h=>by simp [bytesLess] at h
 | [],_::_,_::_,_,_=>rfl
 | a::x,b::y,c::z,h1,h2=>by
  rw [bytesLess] at *
  simp only [Bool.or_eq_true,Bool.and_eq_true,decide_eq_true_eq,beq_iff_eq] at *
  rcases h1 with h1|⟨rfl,h1⟩
  ·rcases h2 with h2|⟨rfl,h2⟩
   ·exact .inl (UInt8.lt_trans h1 h2)
   ·exact .inl h1
  ·rcases h2 with h2|⟨rfl,h2⟩
   ·exact .inl h2
   ·exact .inr ⟨rfl,bl_trans h1 h2⟩
theorem bl_total:∀{x y:List UInt8},bytesLess x y=false→bytesLess y x=false→x=y
 | [],[],_,_=>rfl
 | [],_::_,h,_=>by simp [bytesLess] at h
 | _::_,[],_,h=>by simp [bytesLess] at h
 | a::x,b::y,h1,h2=>by
  rw [bytesLess] at *
  simp only [Bool.or_eq_false_iff,Bool.and_eq_false_iff,decide_eq_false_iff_not,beq_eq_false_iff_ne] at *
  have e:a=b:=by
   have p1:=h1.1
   have p2:=h2.1
   rw [UInt8.lt_iff_toNat_lt] at p1 p2
   exact UInt8.toNat.inj (by omega)
  subst e
  rw [bl_total (h1.2.resolve_left (fun h=>h rfl)) (h2.2.resolve_left (fun h=>h rfl))]
def lt (a b:ByteArray):Bool:=bytesLess a.toList b.toList
theorem toList_inj {a b:ByteArray} (h:a.toList=b.toList):a=b:=by
 rw [ByteArray.toList_eq,ByteArray.toList_eq] at h
 exact ByteArray.ext (Array.ext' h)
theorem lt_irrefl (a:ByteArray):lt a a=false:=bl_irrefl _
theorem lt_trans {a b c:ByteArray} (h1:lt a b=true) (h2:lt b c=true):lt a c=true:=bl_trans h1 h2
theorem lt_total {a b:ByteArray} (h1:lt a b=false) (h2:lt b a=false):a=b:=toList_inj (bl_total h1 h2)
theorem lt_asymm {a b:ByteArray} (h:lt a b=true):lt b a=false:=by
 cases h2:lt b a
 ·rfl
 ·have:=lt_trans h h2
  rw [lt_irrefl] at this
  cases this
theorem lt_empty {b:ByteArray} (h:1≤b.size):lt ⟨#[]⟩ b=true:=by
 unfold lt
 have h1:(⟨#[]⟩:ByteArray).toList=[]:=by rw [ByteArray.toList_eq]
 rw [h1]
 cases hb:b.toList with
 | nil =>
  rw [ByteArray.toList_eq] at hb
  have:b.data.toList.length=0:=by rw [hb];rfl
  have h2:b.data.toList.length=b.size:=rfl
  omega
 | cons x l=>rfl
end LtR
end Go.Proofs.YtnceeaccbcfopaaGreatDoor
namespace Go.Proofs.YtnceeaccbcfopaaGreatDoor
open Go.ChangeShapes Go.WideShapes Go.ChangeAt Go.RowKit
set_option linter.unusedVariables false
namespace StxR
open RowG LtR
open NameR (nameB)
def ahd (ns:List ByteArray):Nat→ByteArray
 | 0=>⟨#[]⟩
 | k+1=>ns.getD k tz
def NOk (ns:List ByteArray) (k:Nat):Prop:=∀i,i<k→lt (ahd ns i) (ns.getD i tz)=true∧nameB (ns.getD i tz)=true
def NRight (ns:List ByteArray):Prop:=(1≤ns.length∧ns.length≤3)∧NOk ns ns.length
def NOkDec (ns:List ByteArray) (k:Nat):Decidable (NOk ns k):=inferInstanceAs (Decidable (∀i,i<k→lt (ahd ns i) (ns.getD i tz)=true∧nameB (ns.getD i tz)=true))
def NRightDec (ns:List ByteArray):Decidable (NRight ns) :=
 haveI:=NOkDec ns ns.length
 inferInstanceAs (Decidable ((1≤ns.length∧ns.length≤3)∧NOk ns ns.length))
def nsB (ns:List ByteArray):Bool:=@decide (NRight ns) (NRightDec ns)
theorem nsB_no {ns:List ByteArray} (h:¬NRight ns):nsB ns=false:=by unfold nsB;exact @decide_eq_false _ (NRightDec ns) h
theorem nsB_yes {ns:List ByteArray} (h:NRight ns):nsB ns=true:=by unfold nsB;exact @decide_eq_true _ (NRightDec ns) h
theorem nsB_iff {ns:List ByteArray}:nsB ns=true↔NRight ns:=by unfold nsB;exact @decide_eq_true_iff _ (NRightDec ns)
theorem NOk.zero (ns:List ByteArray):NOk ns 0:=fun i h=>absurd h (by omega)
theorem NOk.more {ns:List ByteArray} {k:Nat} (h:NOk ns k) (h1:lt (ahd ns k) (ns.getD k tz)=true) (h2:nameB (ns.getD k tz)=true):NOk ns (k+1):=by
 intro i hi
 by_cases e:i=k
 ·subst e;exact ⟨h1,h2⟩
 ·exact h i (by omega)
theorem nsB_false {ns:List ByteArray} {k:Nat} (hk:k<ns.length) (h:¬(lt (ahd ns k) (ns.getD k tz)=true∧nameB (ns.getD k tz)=true)):nsB ns=false:=nsB_no (fun hr=>h (hr.2 k hk))
theorem nsB_len {ns:List ByteArray} (h:¬(1≤ns.length∧ns.length≤3)):nsB ns=false:=nsB_no (fun hr=>h hr.1)
theorem name_posN {s:ByteArray} (h:nameB s=true):1≤s.size:=by
 unfold nameB at h
 simp at h
 exact h.1
theorem le_casesN (x a:ByteArray):(Op.bytesLess x.toList a.toList=true∧lt a x=false)∨(Op.bytesLess x.toList a.toList=false∧x.toList=a.toList∧(x.toList==a.toList)=true∧lt a x=false)∨(Op.bytesLess x.toList a.toList=false∧x.toList≠a.toList∧(x.toList==a.toList)=false∧lt a x=true):=by
 cases h:lt x a
 ·by_cases e:x=a
  ·subst e;exact .inr (.inl ⟨h,rfl,by simp,h⟩)
  ·have ne:x.toList≠a.toList:=fun q=>e (toList_inj q)
   refine .inr (.inr ⟨h,ne,by simpa using ne,?_⟩)
   cases h2:lt a x
   ·exact absurd (lt_total h h2) e
   ·rfl
 ·exact .inl ⟨h,lt_asymm h⟩
theorem with_yes (len:Nat) (w:World) (h41:(len:Int)≤3) (h42:(1:Int)≤(len:Int)):Calls Tryz.prog 167 #[.int .i64 (len:Int),.int .i64 1,.int .i64 3] w fun e w'=>e=.returned (.bool true)∧w'=w:=by
 go_enter Tryz.func167,Tryz.ntmps167
 go_wp2_with fail
 go_ret
 exact ⟨rfl,rfl⟩
theorem impl_names (ao:Option Addr) (cap:Nat) (ns:List ByteArray) (w:World) (hlen:ns.length≤1048576) (hS:∀e∈ns,e.size≤1048576) (hI:Tgs ao ns w) :
 Calls Tryz.prog 123 #[.slice ao ns.length cap] w fun e w'=>e=.returned (.bool (nsB ns))∧Below w.heap.size w w':=by
 by_cases h40:1≤ns.length∧ns.length≤3
 rotate_left
 ·have HR:=H_ (nsB_len h40)
  obtain ⟨len,hl⟩:∃len,len=ns.length:=⟨_,rfl⟩
  rw [←hl] at hlen h40 ⊢
  clear hI hS hl
  rcases (show len=0∨3<len by omega) with rfl|h4
  ·go_enter Tryz.func123,Tryz.ntmps123
   go_wp2_with (go_at_call 167;go_in)
   go_ret
   exact ⟨ret_bool HR.out.symm,Below.refl _ _⟩
  ·have h41:¬(len:Int)≤3:=by omega
   have h42:(1:Int)≤(len:Int):=by omega
   go_enter Tryz.func123,Tryz.ntmps123
   go_wp2_with (go_at_call 167;go_in)
   go_ret
   exact ⟨ret_bool HR.out.symm,Below.refl _ _⟩
 ·have HT0:=H_ (fun k (hk:k<ns.length)=>nsB_false (ns:=ns) hk)
  have HTE:=H_ (fun h=>nsB_yes (ns:=ns) ⟨h40,h⟩)
  have HI:=H_ hI
  have HS:=H_ hS
  obtain ⟨len,hl⟩:∃len,len=ns.length:=⟨_,rfl⟩
  rw [←hl] at hlen h40 ⊢
  have HL:=H_ hl
  have h41:(len:Int)≤3:=by omega
  have h42:(1:Int)≤(len:Int):=by omega
  clear hI hS hl
  generalize nsB ns=R at *
  go_enter Tryz.func123,Tryz.ntmps123
  go_wp2_with (go_at_call 167;refine (with_yes len _ h41 h42).mono ?_;rintro e w1 ⟨rfl,hw1⟩;rw [hw1];clear hw1 w1)
  go_loopw [3,12] (fun x z wr=>∃k:Nat,k≤len∧x=.string (ahd ns k)∧z=.int .i64 k∧Hid (NOk ns k)∧Hid (Below w.heap.size w wr)) (fun x z _=>len-(intOf z).toNat)
  case atStart=>exact ⟨0,by omega,rfl,rfl,H_ (NOk.zero ns),H_ (Below.refl _ _)⟩
  case round =>
   obtain ⟨k,hk,rfl,rfl,HK,HB⟩:=hrel
   by_cases hlt:k<len
   ·have hlt2:(k:Int)<(len:Int):=by omega
    obtain ⟨b,off,rfl,hbl,c0⟩:=(HI.out.below HB.out).at k (by have:=HL.out;omega)
    have hsz:=HS.out _ (getD_mem (z:=tz) ns k (by have:=HL.out;omega))
    have HM:=H_ (fun h1 h2=>HK.out.more (k:=k) h1 h2)
    have HF:=H_ (HT0.out k (by have:=HL.out;omega))
    have HA:Hid (ahd ns (k+1)=ns.getD k tz):=rfl
    generalize ahd ns k=a at *
    generalize ns.getD k tz=xi at *
    have H1:=H_ (fun w=>NameR.impl_any xi w hsz)
    rcases le_casesN xi a with ⟨q1,q2⟩|⟨q1,q3,q4,q2⟩|⟨q1,q3,q4,q2⟩
    ·have HR:Hid (R=false):=H_ (HF.out (fun h=>by rw [q2] at h;exact absurd h.1 (by simp)))
     clear HM HF q2
     go_wp2_with fail
     go_ret
     exact ⟨ret_bool HR.out.symm,HB.out⟩
    ·have HR:Hid (R=false):=H_ (HF.out (fun h=>by rw [q2] at h;exact absurd h.1 (by simp)))
     clear HM HF q2
     go_wp2_with fail
     go_ret
     exact ⟨ret_bool HR.out.symm,HB.out⟩
    ·generalize nameB xi=b1 at *
     cases b1
     ·have HR:Hid (R=false):=H_ (HF.out (fun h=>absurd h.2 (by simp)))
      clear HM HF q2
      go_wp2_with (go_at_call 166;refine (H1.out _).mono ?_;rintro e w1 ⟨rfl,rfl⟩)
      go_ret
      exact ⟨ret_bool HR.out.symm,HB.out⟩
     ·replace HM:=H_ (HM.out q2 rfl)
      clear HF q2
      go_wp2_with (go_at_call 166;refine (H1.out _).mono ?_;rintro e w1 ⟨rfl,rfl⟩)
      go_roundw
      case rel=>exact ⟨k+1,by omega,by rw [HA.out],by go_num,HM,HB⟩
      case measure=>simp [intOf];omega
   ·have hlt2:¬(k:Int)<(len:Int):=by omega
    obtain rfl:k=len:=by omega
    have HR:Hid (R=true):=H_ (HTE.out (by rw [←HL.out];exact HK.out))
    go_wp2_with fail
    go_ret
    exact ⟨ret_bool HR.out.symm,HB.out⟩
def scells (t:ByteArray):List Value:=[.string t,.int .i64 0]
def Srs (ao:Option Addr) (ns:List ByteArray) (w:World):Prop:=Rws 2 scells tz ao ns w
theorem Srs.below {ao:Option Addr} {ns:List ByteArray} {w w':World} (h:Srs ao ns w) (hb:Below w.heap.size w w'):Srs ao ns w':=Rws.below h hb
theorem Srs.at {ao:Option Addr} {ns:List ByteArray} {w:World} (h:Srs ao ns w) (j:Nat) (hj:j<ns.length):∃b off,ao=some ⟨b,off,none⟩∧b<w.heap.size∧w.cell? ⟨b,off+j*2,none⟩=some (.string (ns.getD j tz))∧w.cell? ⟨b,off+j*2+1,none⟩=some (.int .i64 0):=by
 obtain ⟨b,off,h1,h2,h3⟩:=Rws.at h j hj
 exact ⟨b,off,h1,h2,h3 0 (by omega),h3 1 (by omega)⟩
end StxR
namespace CatR
open ChG
open RowG (cellsAll grown_set)
open EvtR (Pt cell_put cell_far)
open MarkR (mk mT mark_any H_)
theorem srcM (K:Nat) (hK0:1≤K) (hK:K≤6000000) (g n cap:Nat) (w:World) (hn:n≤1048576) (h0:Pt g (n*2) w) :
 Calls Tryz.prog 39 #[.slice (some ⟨g,0,none⟩) n cap,.int .i64 K] w fun e w'=>e=.returned (.int .i64 (K+2*n:Nat))∧w.grownBy w' (some g)∧(∀n',Pt g n' w→Pt g n' w')∧CM K n g w':=by
 have HP:=H_ h0
 have HT:Hid (∀(z:Int) (K:Nat),z=K→1≤K→K<100000000→∀w,Calls Tryz.prog 89 #[.int .i64 z] w fun e w'=>e=.returned (.string (mT K))∧Below w.heap.size w w'):=H_ (fun z K e h0 h w=>by subst e;exact mark_any K h0 h w)
 have HM0:Hid (CM K 0 g w):=H_ ⟨h0.lt,fun i hi=>absurd hi (by omega)⟩
 clear h0
 go_enter Tryz.func39,Tryz.ntmps39
 go_wp2_with fail
 go_loopw [5,1] (fun x z wr=>∃i:Nat,x=.int .i64 (i:Int)∧z=.int .i64 ((K:Int)+2*(i:Int))∧i≤n∧Hid (Pt g (n*2) wr)∧Hid (w.grownBy wr (some g))∧Hid (∀n',Pt g n' w→Pt g n' wr)∧Hid (CM K i g wr)) (fun x _ _=>n-(intOf x).toNat)
 case atStart=>exact ⟨0,rfl,by go_num,by omega,HP,H_ ⟨rfl,rfl,rfl,Nat.le_refl _,fun _ _ _=>rfl⟩,H_ (fun _ h=>h),HM0⟩
 case round =>
  clear HM0
  obtain ⟨i,rfl,rfl,hi,HP,HG,HA,HM⟩:=hrel
  by_cases hin:i=n
  ·subst hin
   go_wp2_with fail
   go_ret
   exact ⟨by go_num,HG.out,HA.out,HM.out⟩
  ·have h1:(i:Int)<(n:Int):=by omega
   go_wp2_with fail
   refine (HT.out _ (K+2*i) (by push_cast;omega) (by omega) (by omega) _).mono ?_
   rintro e w1 ⟨rfl,hb⟩
   have HP1:=H_ (HP.out.below hb)
   have HG1:=H_ (OwG.gtransO HG.out (OwG.rgrownO hb _))
   have HA2:Hid (∀n',Pt g n' w→Pt g n' ((w1.setCell ⟨g,i*2,none⟩ (.string (mT (K+2*i)))).setCell ⟨g,i*2+1,none⟩ (.int .i64 ((K:Int)+2*(i:Int)+1)))):=H_ (fun n' h=>(((HA.out n' h).below hb).set _ _).set _ _)
   have HM2:=H_ ((HM.out.below hb).more HP1.out (by omega))
   obtain ⟨v0,c0⟩:=HP1.out.has (i*2) (by omega)
   have f0:=HP1.out.free (i*2) (by omega)
   obtain ⟨v1,c1⟩:=HP1.out.has (i*2+1) (by omega)
   have f1:=HP1.out.free (i*2+1) (by omega)
   have HS:=H_ (OwG.gtransO (OwG.gtransO HG1.out (grown_set _ g (i*2) (.string (mT (K+2*i))))) (grown_set _ g (i*2+1) (.int .i64 ((K:Int)+2*(i:Int)+1))))
   have HP2:=H_ ((HP1.out.set (i*2) (.string (mT (K+2*i)))).set (i*2+1) (.int .i64 ((K:Int)+2*(i:Int)+1)))
   clear hb HP HG HG1 HP1 HA HM
   go_wp2_with fail
   go_roundw
   case rel=>exact ⟨i+1,by go_num,by go_num,by omega,HP2,HS,HA2,HM2⟩
   case measure=>simp [intOf];omega
theorem srcH (K:Nat) (hK0:1≤K) (hK:K≤6000000) (g n cap:Nat) (w:World) (hn:n≤1048576) (hm:CM K n g w) :
 Calls Tryz.prog 94 #[.slice (some ⟨g,0,none⟩) n cap,.int .i64 K] w fun e w'=>e=.returned (.int .i64 (K+2*n:Nat))∧Below w.heap.size w w':=by
 have HM:=H_ hm
 have HT:Hid (∀(z:Int) (K:Nat),z=K→1≤K→K<100000000→∀w,Calls Tryz.prog 89 #[.int .i64 z] w fun e w'=>e=.returned (.string (mT K))∧Below w.heap.size w w'):=H_ (fun z K e h0 h w=>by subst e;exact mark_any K h0 h w)
 clear hm
 go_enter Tryz.func94,Tryz.ntmps94
 go_wp2_with fail
 go_loopw [5,1] (fun x z wr=>∃i:Nat,x=.int .i64 (i:Int)∧z=.int .i64 ((K:Int)+2*(i:Int))∧i≤n∧Hid (Below w.heap.size w wr)) (fun x _ _=>n-(intOf x).toNat)
 case atStart=>exact ⟨0,rfl,by go_num,by omega,H_ (Below.refl _ _)⟩
 case round =>
  obtain ⟨i,rfl,rfl,hi,HB⟩:=hrel
  by_cases hin:i=n
  ·subst hin
   go_wp2_with fail
   go_ret
   exact ⟨by go_num,HB.out⟩
  ·have h1:(i:Int)<(n:Int):=by omega
   obtain ⟨q0,q1⟩:=(HM.out.below HB.out).2 i (by omega)
   have HT0:=H_ (fun w=>HT.out ((K:Int)+2*(i:Int)) (K+2*i) (by push_cast;omega) (by omega) (by omega) w)
   generalize mT (K+2*i)=T0 at *
   have HS0:Hid (BoxC w g (i*2) T0 ((K:Int)+2*(i:Int)+1) wr):=H_ ⟨HB.out,by have:=HB.out.size;have:=HM.out.1;omega,q0,q1⟩
   have HS1:=H_ HS0.out.drew
   go_wp2_with fail
   go_region_held3 (fun w'=>Below w.heap.size w w'∧g<w'.heap.size∧w'.cell? ⟨g,i*2,none⟩=some (.string T0)∧w'.cell? ⟨g,i*2+1,none⟩=some (.int .i64 ((K:Int)+2*(i:Int)+1))) (first|assumption|(exact HS0.out)|(exact HS1.out)|(exact BoxC.below (w:=w) (g:=g) (o:=i*2) (t0:=T0) (n:=(K:Int)+2*(i:Int)+1) (by assumption) hb))
    (first|(go_at_call 89;refine (HT0.out _).mono ?_;rintro e w' ⟨rfl,hb⟩))
   rename_i hS
   replace HS0:=H_ hS
   have q0:=HS0.out.2.2.1
   have q1:=HS0.out.2.2.2
   clear hS HS1
   have HB2:=H_ HS0.out.1
   go_wp2_with fail
   go_roundw
   case rel=>exact ⟨i+1,by go_num,by go_num,by omega,HB2⟩
   case measure=>simp [intOf];omega
theorem srcH0 (K:Int) (ao:Option Addr) (cap:Nat) (w:World):Calls Tryz.prog 94 #[.slice ao 0 cap,.int .i64 K] w fun e w'=>e=.returned (.int .i64 K)∧Below w.heap.size w w':=by
 go_enter Tryz.func94,Tryz.ntmps94
 go_wp2_with fail
 go_loopw [5,1] (fun x z wr=>x=.int .i64 0∧z=.int .i64 K∧Hid (Below w.heap.size w wr)) (fun x _ _=>0)
 case atStart=>exact ⟨rfl,rfl,H_ (Below.refl _ _)⟩
 case round =>
  obtain ⟨rfl,rfl,HB⟩:=hrel
  go_wp2_with fail
  go_ret
  exact ⟨rfl,HB.out⟩
theorem srcM0 (K:Int) (ao:Option Addr) (cap:Nat) (w:World):Calls Tryz.prog 39 #[.slice ao 0 cap,.int .i64 K] w fun e w'=>e=.returned (.int .i64 K)∧Below w.heap.size w w':=by
 go_enter Tryz.func39,Tryz.ntmps39
 go_wp2_with fail
 go_loopw [5,1] (fun x z wr=>x=.int .i64 0∧z=.int .i64 K∧Hid (Below w.heap.size w wr)) (fun x _ _=>0)
 case atStart=>exact ⟨rfl,rfl,H_ (Below.refl _ _)⟩
 case round =>
  obtain ⟨rfl,rfl,HB⟩:=hrel
  go_wp2_with fail
  go_ret
  exact ⟨rfl,HB.out⟩
theorem own_two {w:World} {base T n:Nat} {a:Option Addr} {c:Nat} {xs:List Value} (h:w.ownsRow base T 2 (.slice a n c) n xs):n=0∨∃g,a=some ⟨g,0,none⟩∧base≤g∧Pt g (n*2) w:=by
 rcases h.2 with ⟨h0,h1⟩|⟨g,cap,cur,hv,hg,hh,hc,_,hz,hcur⟩
 ·exact .inl h1
 ·have hl:=(h.lt g (by rw [hv];rfl)).2
  cases hv
  have hm:n*2≤cur.size:=by rw [hz];exact Nat.mul_le_mul_right _ hc
  refine .inr ⟨g,rfl,hg,hl,fun o ho=>?_,fun o ho=>?_⟩
  ·exact ⟨cur[o]'(by omega),by simp [World.cell?,hh,show o<cur.size by omega]⟩
  ·simp [World.frozen?,hh]
def T1 (v:Value) (b:Nat):Prop:=v.ownBlock=some b
theorem mkh_cred {w:World} {base T n K:Nat} {a:Option Addr} {c:Nat} {xs:List Value} (h:w.ownsRow base T 2 (.slice a n c) n xs) (hK0:1≤K) (hK:K≤5300001) (hn:n≤1048576):MkH 88 146 (.slice a n c) K (K+2*n) (T1 (.slice a n c)) w:=by
 intro S W hc hS
 rcases own_two h with h0|⟨g,rfl,hg,hp⟩
 ·subst h0
  refine (credM0 K a c W).mono ?_
  rintro e w' ⟨rfl,hb⟩
  exact ⟨rfl,Chg.of_below hb,fun S' Y _ _=>credH0 K a c Y⟩
 ·have hp2:=hc.pt hp (fun q=>hS g q rfl)
  refine (credM K hK0 (by omega) g n c W hn hp2).mono ?_
  rintro e w' ⟨rfl,hg2,_,hM⟩
  refine ⟨rfl,(Chg.refl _ _).grown hg2 rfl,fun S' Y hc2 hS2=>?_⟩
  exact credH K hK0 (by omega) g n c Y hn (hM.block hc2.size (hc2.block g hM.1 (fun q=>hS2 g q rfl)))
theorem mkh_src {w:World} {base T n K:Nat} {a:Option Addr} {c:Nat} {xs:List Value} (h:w.ownsRow base T 2 (.slice a n c) n xs) (hK0:1≤K) (hK:K≤5300001) (hn:n≤1048576):MkH 39 94 (.slice a n c) K (K+2*n) (T1 (.slice a n c)) w:=by
 intro S W hc hS
 rcases own_two h with h0|⟨g,rfl,hg,hp⟩
 ·subst h0
  refine (srcM0 K a c W).mono ?_
  rintro e w' ⟨rfl,hb⟩
  exact ⟨rfl,Chg.of_below hb,fun S' Y _ _=>srcH0 K a c Y⟩
 ·have hp2:=hc.pt hp (fun q=>hS g q rfl)
  refine (srcM K hK0 (by omega) g n c W hn hp2).mono ?_
  rintro e w' ⟨rfl,hg2,_,hM⟩
  refine ⟨rfl,(Chg.refl _ _).grown hg2 rfl,fun S' Y hc2 hS2=>?_⟩
  exact srcH K hK0 (by omega) g n c Y hn (hM.block hc2.size (hc2.block g hM.1 (fun q=>hS2 g q rfl)))
def TMs (vm:Value) (xs:List MA) (b:Nat):Prop:=vm.ownBlock=some b∨∃y∈xs,y.v.ownBlock=some b
theorem own_chg {S:Nat→Prop} {W W':World} {base e size n:Nat} {v:Value} {xs:List Value} (h:W.ownsRow base e size v n xs) (hc:Chg S W W') (hS:∀b,v.ownBlock=some b→¬S b):W'.ownsRow base e size v n xs:=by
 have hl:=h.lt
 refine ⟨h.1,?_⟩
 rcases h.2 with hn|⟨g,cap,cur,e1,e2,hg,rest⟩
 ·exact .inl hn
 ·have ob:v.ownBlock=some g:=by rw [e1];rfl
  exact .inr ⟨g,cap,cur,e1,e2,(hc.block g (hl g ob).2 (hS g ob)).trans hg,rest⟩
theorem mkh_mes {w:World} {base K:Nat} {vm:Value} {xs:List MA} (hK0:1≤K) (hlen:xs.length≤1048576) (hln:∀y∈xs,y.m.ts.length≤1048576) (ht:K+totM (xs.map MA.m)≤5300001) (h2:w.ownsRow base 150 6 vm xs.length (cellsAll MA.cells xs)) (h3:∀x∈xs,TnO base x w) (h4:xs.Pairwise AptM):MkH 87 145 vm K (K+totM (xs.map MA.m)) (TMs vm xs) w:=by
 intro S W hc hS
 have h2':=own_chg h2 hc (fun b q q2=>hS b q2 (.inl q))
 have h3':∀x∈xs,TnO base x W:=fun x hx=>own_chg (h3 x hx) hc (fun b q q2=>hS b q2 (.inr ⟨x,hx,q⟩))
 refine (markMsO base K vm xs W hK0 hlen hln ht h2' h3' h4).mono ?_
 rintro e w' ⟨rfl,S2,hc2,hS2,hH⟩
 exact ⟨rfl,hc2.wide (fun b q=>(hS2 b q).2),fun S3 Y hc3 hS3=>hH S3 Y hc3 (fun b q q2=>hS3 b q (hS2 b q2).2)⟩
theorem ensM0 (K:Int) (ao:Option Addr) (cap:Nat) (w:World):Calls Tryz.prog 40 #[.slice ao 0 cap,.int .i64 K] w fun e w'=>e=.returned (.int .i64 K)∧Below w.heap.size w w':=by
 go_enter Tryz.func40,Tryz.ntmps40
 go_wp2_with fail
 go_loopw [5,1] (fun x z wr=>x=.int .i64 0∧z=.int .i64 K∧Hid (Below w.heap.size w wr)) (fun x _ _=>0)
 case atStart=>exact ⟨rfl,rfl,H_ (Below.refl _ _)⟩
 case round =>
  obtain ⟨rfl,rfl,HB⟩:=hrel
  go_wp2_with fail
  go_ret
  exact ⟨rfl,HB.out⟩
theorem ensH0 (K:Int) (ao:Option Addr) (cap:Nat) (w:World):Calls Tryz.prog 95 #[.slice ao 0 cap,.int .i64 K] w fun e w'=>e=.returned (.int .i64 K)∧Below w.heap.size w w':=by
 go_enter Tryz.func95,Tryz.ntmps95
 go_wp2_with fail
 go_loopw [5,1] (fun x z wr=>x=.int .i64 0∧z=.int .i64 K∧Hid (Below w.heap.size w wr)) (fun x _ _=>0)
 case atStart=>exact ⟨rfl,rfl,H_ (Below.refl _ _)⟩
 case round =>
  obtain ⟨rfl,rfl,HB⟩:=hrel
  go_wp2_with fail
  go_ret
  exact ⟨rfl,HB.out⟩
theorem mkh_ens0 (K:Nat) (ao:Option Addr) (cap:Nat) (w:World):MkH 40 95 (.slice ao 0 cap) K K (fun _=>False) w:=mkh_none (fun W=>ensM0 K ao cap W) (fun W=>ensH0 K ao cap W)
theorem wdsM0 (K:Int) (ao:Option Addr) (cap:Nat) (w:World):Calls Tryz.prog 41 #[.slice ao 0 cap,.int .i64 K] w fun e w'=>e=.returned (.int .i64 K)∧Below w.heap.size w w':=by
 go_enter Tryz.func41,Tryz.ntmps41
 go_wp2_with fail
 go_loopw [5,1] (fun x z wr=>x=.int .i64 0∧z=.int .i64 K∧Hid (Below w.heap.size w wr)) (fun x _ _=>0)
 case atStart=>exact ⟨rfl,rfl,H_ (Below.refl _ _)⟩
 case round =>
  obtain ⟨rfl,rfl,HB⟩:=hrel
  go_wp2_with fail
  go_ret
  exact ⟨rfl,HB.out⟩
theorem wdsH0 (K:Int) (ao:Option Addr) (cap:Nat) (w:World):Calls Tryz.prog 96 #[.slice ao 0 cap,.int .i64 K] w fun e w'=>e=.returned (.int .i64 K)∧Below w.heap.size w w':=by
 go_enter Tryz.func96,Tryz.ntmps96
 go_wp2_with fail
 go_loopw [5,1] (fun x z wr=>x=.int .i64 0∧z=.int .i64 K∧Hid (Below w.heap.size w wr)) (fun x _ _=>0)
 case atStart=>exact ⟨rfl,rfl,H_ (Below.refl _ _)⟩
 case round =>
  obtain ⟨rfl,rfl,HB⟩:=hrel
  go_wp2_with fail
  go_ret
  exact ⟨rfl,HB.out⟩
theorem mkh_wds0 (K:Nat) (ao:Option Addr) (cap:Nat) (w:World):MkH 41 96 (.slice ao 0 cap) K K (fun _=>False) w:=mkh_none (fun W=>wdsM0 K ao cap W) (fun W=>wdsH0 K ao cap W)
theorem dcsM0 (K:Int) (ao:Option Addr) (cap:Nat) (w:World):Calls Tryz.prog 42 #[.slice ao 0 cap,.int .i64 K] w fun e w'=>e=.returned (.int .i64 K)∧Below w.heap.size w w':=by
 go_enter Tryz.func42,Tryz.ntmps42
 go_wp2_with fail
 go_loopw [5,1] (fun x z wr=>x=.int .i64 0∧z=.int .i64 K∧Hid (Below w.heap.size w wr)) (fun x _ _=>0)
 case atStart=>exact ⟨rfl,rfl,H_ (Below.refl _ _)⟩
 case round =>
  obtain ⟨rfl,rfl,HB⟩:=hrel
  go_wp2_with fail
  go_ret
  exact ⟨rfl,HB.out⟩
theorem dcsH0 (K:Int) (ao:Option Addr) (cap:Nat) (w:World):Calls Tryz.prog 44 #[.slice ao 0 cap,.int .i64 K] w fun e w'=>e=.returned (.int .i64 K)∧Below w.heap.size w w':=by
 go_enter Tryz.func44,Tryz.ntmps44
 go_wp2_with fail
 go_loopw [5,1] (fun x z wr=>x=.int .i64 0∧z=.int .i64 K∧Hid (Below w.heap.size w wr)) (fun x _ _=>0)
 case atStart=>exact ⟨rfl,rfl,H_ (Below.refl _ _)⟩
 case round =>
  obtain ⟨rfl,rfl,HB⟩:=hrel
  go_wp2_with fail
  go_ret
  exact ⟨rfl,HB.out⟩
theorem mkh_dcs0 (K:Nat) (ao:Option Addr) (cap:Nat) (w:World):MkH 42 44 (.slice ao 0 cap) K K (fun _=>False) w:=mkh_none (fun W=>dcsM0 K ao cap W) (fun W=>dcsH0 K ao cap W)
end CatR
end Go.Proofs.YtnceeaccbcfopaaGreatDoor
namespace Go.Proofs.YtnceeaccbcfopaaGreatDoor
namespace DateM
def leapB (y:Int):Bool:=decide (y % 4=0∧(y % 100≠0∨y % 400=0))
def yd (y:Int):Int:=if leapB y=true then 366 else 365
def md (y m:Int):Int:=if m=2 then (if leapB y=true then 29 else 28) else if m=4∨m=6∨m=9∨m=11 then 30 else 31
def mdays (y m:Int):Int:=if 1970≤y∧y≤2200∧1≤m∧m≤12 then md y m else 0
def ys:Nat→Int
 | 0=>0
 | k+1=>ys k+yd (1970+(k:Int))
def ms (y:Int):Nat→Int
 | 0=>0
 | k+1=>ms y k+md y ((k:Int)+1)
theorem yd_bd (y:Int):365≤yd y∧yd y≤366:=by unfold yd;split<;>omega
theorem md_bd (y m:Int):28≤md y m∧md y m≤31:=by unfold md;split<;>(try split)<;>(try split)<;>omega
theorem ys_succ (k:Nat):ys (k+1)=ys k+yd (1970+(k:Int)):=rfl
theorem ms_succ (y:Int) (k:Nat):ms y (k+1)=ms y k+md y ((k:Int)+1):=rfl
theorem ys_bd (k:Nat):365*(k:Int)≤ys k∧ys k≤366*(k:Int):=by
 induction k with
 | zero=>simp [ys]
 | succ k ih=>have:=yd_bd (1970+(k:Int));rw [ys_succ];omega
theorem ms_bd (y:Int) (k:Nat):28*(k:Int)≤ms y k∧ms y k≤31*(k:Int):=by
 induction k with
 | zero=>simp [ms]
 | succ k ih=>have:=md_bd y ((k:Int)+1);rw [ms_succ];omega
theorem ms_all (y:Int):ms y 12=yd y:=by
 simp only [ms,md,yd]
 cases leapB y<;>decide
theorem ys_mono {j k:Nat} (h:j≤k):ys j+365*((k:Int)-j)≤ys k:=by
 induction k with
 | zero =>
  obtain rfl:j=0:=by omega
  simp
 | succ k ih =>
  by_cases e:j=k+1
  ·subst e;simp
  ·have:=ih (by omega)
   have:=yd_bd (1970+(k:Int))
   rw [ys_succ];omega
theorem ms_mono (y:Int) {j k:Nat} (h:j≤k):ms y j+28*((k:Int)-j)≤ms y k:=by
 induction k with
 | zero =>
  obtain rfl:j=0:=by omega
  simp
 | succ k ih =>
  by_cases e:j=k+1
  ·subst e;simp
  ·have:=ih (by omega)
   have:=md_bd y ((k:Int)+1)
   rw [ms_succ];omega
theorem year_is (d:Int) (h:0≤d):∃k:Nat,ys k≤d∧d<ys (k+1):=by
 obtain ⟨n,rfl⟩:∃n:Nat,d=n:=⟨d.toNat,by omega⟩
 induction n with
 | zero=>exact ⟨0,by simp [ys],by have:=ys_bd 1;simp at this ⊢;omega⟩
 | succ n ih =>
  obtain ⟨k,h1,h2⟩:=ih (by omega)
  by_cases e:((n+1:Nat):Int)<ys (k+1)
  ·exact ⟨k,by omega,e⟩
  ·refine ⟨k+1,by omega,?_⟩
   have:=yd_bd (1970+((k+1:Nat):Int))
   rw [ys_succ (k+1)];omega
theorem month_is (y d:Int) (h:0≤d) (h2:d<yd y):∃k:Nat,k<12∧ms y k≤d∧d<ms y (k+1):=by
 have key:∀j:Nat,j≤12→ms y j≤d∨∃k:Nat,k<12∧ms y k≤d∧d<ms y (k+1):=by
  intro j
  induction j with
  | zero=>intro _;left;simp [ms];exact h
  | succ j ih =>
   intro hj
   rcases ih (by omega) with h1|h1
   ·by_cases e:d<ms y (j+1)
    ·exact .inr ⟨j,by omega,h1,e⟩
    ·exact .inl (by omega)
   ·exact .inr h1
 rcases key 12 (Nat.le_refl _) with h1|h1
 ·rw [ms_all] at h1;omega
 ·exact h1
def rightB (y m d:Int):Bool:=decide (1≤d∧d≤mdays y m)
theorem right_iff (y m d:Int):rightB y m d=true↔1970≤y∧y≤2200∧1≤m∧m≤12∧1≤d∧d≤md y m:=by
 unfold rightB mdays
 simp only [decide_eq_true_eq]
 split<;>omega
def num (y m d:Int):Int:=d-1+ys (y-1970).toNat+ms y (m-1).toNat
end DateM
namespace DateM
def fd (k:Nat):Int:=ys (k / 12)+ms (1970+((k / 12:Nat):Int)) (k % 12)
theorem fd_num (k:Nat):num (1970+(k:Int) / 12) ((k:Int) % 12+1) 1=fd k:=by
 unfold num fd
 rw [show (1970+(k:Int) / 12-1970).toNat=k / 12 by omega,show ((k:Int) % 12+1-1).toNat=k % 12 by omega,show ((k / 12:Nat):Int)=(k:Int) / 12 by omega]
 omega
theorem fd_succ (k:Nat):fd (k+1)=fd k+md (1970+((k / 12:Nat):Int)) (((k % 12:Nat):Int)+1):=by
 unfold fd
 by_cases h:k % 12=11
 ·rw [show (k+1) / 12=k / 12+1 by omega,show (k+1) % 12=0 by omega,ys_succ,←ms_all,h,ms_succ]
  simp only [ms]
  omega
 ·rw [show (k+1) / 12=k / 12 by omega,show (k+1) % 12=k % 12+1 by omega,ms_succ]
  omega
theorem fd_step (k:Nat):fd k+28≤fd (k+1)∧fd (k+1)≤fd k+31:=by
 rw [fd_succ]
 have:=md_bd (1970+((k / 12:Nat):Int)) (((k % 12:Nat):Int)+1)
 omega
theorem fd_zero:fd 0=0:=by simp [fd,ys,ms]
theorem fd_mono {j k:Nat} (h:j≤k):fd j+28*((k:Int)-j)≤fd k:=by
 induction k with
 | zero =>
  obtain rfl:j=0:=by omega
  simp
 | succ k ih =>
  by_cases e:j=k+1
  ·subst e;simp
  ·have:=ih (by omega)
   have:=fd_step k
   omega
theorem fd_bd (k:Nat):0≤fd k∧fd k≤31*(k:Int):=by
 induction k with
 | zero=>simp [fd_zero]
 | succ k ih=>have:=fd_step k;omega
theorem fd_one {d:Int} {j k:Nat} (h1:fd j≤d) (h2:d<fd (k+1)):j≤k:=by
 apply Nat.le_of_not_lt
 intro h
 have:=fd_mono (show k+1≤j from h)
 omega
theorem num_fd (y m d:Int) (h:rightB y m d=true):∃k:Nat,k≤2771∧12*(y-1970)+(m-1)=(k:Int)∧fd k≤num y m d∧num y m d<fd (k+1):=by
 obtain ⟨y1,y2,m1,m2,d1,d2⟩:=(right_iff y m d).1 h
 refine ⟨(12*(y-1970)+(m-1)).toNat,by omega,by omega,?_⟩
 have e1:(12*(y-1970)+(m-1)).toNat / 12=(y-1970).toNat:=by omega
 have e2:(12*(y-1970)+(m-1)).toNat % 12=(m-1).toNat:=by omega
 rw [fd_succ]
 unfold fd num
 rw [e1,e2,show 1970+(((y-1970).toNat:Nat):Int)=y by omega,show (((m-1).toNat:Nat):Int)+1=m by omega]
 omega
theorem ys_nat:∀k:Nat,k≤231→ys k=((List.range k).foldl (fun (a:Int) (j:Nat)=>a+yd (1970+(j:Int))) 0):=by
 intro k _
 induction k with
 | zero=>rfl
 | succ k ih=>rw [List.range_succ,List.foldl_append,←ih (by omega)];rfl
theorem ys_231:84028≤ys 231:=by rw [ys_nat 231 (by omega)];decide +kernel
theorem right_first (k:Nat) (h:k≤2760):rightB (1970+(k:Int) / 12) ((k:Int) % 12+1) 1=true:=by
 have:=md_bd (1970+(k:Int) / 12) ((k:Int) % 12+1)
 exact (right_iff _ _ _).2 ⟨by omega,by omega,by omega,by omega,by omega,by omega⟩
end DateM
end Go.Proofs.YtnceeaccbcfopaaGreatDoor
namespace Go.Proofs.YtnceeaccbcfopaaGreatDoor
open Go.ChangeShapes Go.WideShapes Go.ChangeAt Go.RowKit
set_option linter.unusedVariables false
namespace WordR
def seen (c:Int):Bool:=decide (33≤c∧c≤126)
def upTo (s:ByteArray) (k:Nat):Prop:=∀i (h:i<s.size),i<k→seen (s[i].toNat:Int)=true
def upToDec (s:ByteArray) (k:Nat):Decidable (upTo s k):=inferInstanceAs (Decidable (∀i (h:i<s.size),i<k→seen (s[i].toNat:Int)=true))
def printB (s:ByteArray):Bool:=@decide (upTo s s.size) (upToDec s s.size)
theorem print_no {s:ByteArray} {k:Nat} (h:k<s.size) (hb:seen (s[k].toNat:Int)=false):printB s=false:=by
 unfold printB;simp;intro hu;have:=hu k h h;simp [hb] at this
theorem print_yes {s:ByteArray} (hu:upTo s s.size):printB s=true:=by unfold printB;simpa using hu
theorem upTo_zero (s:ByteArray):upTo s 0:=fun _ _ h=>absurd h (by omega)
theorem upTo_succ {s:ByteArray} {k:Nat} (hu:upTo s k) (h:k<s.size) (hb:seen (s[k].toNat:Int)=true):upTo s (k+1):=by
 intro i hi hk
 by_cases e:i=k
 ·subst e;exact hb
 ·exact hu i hi (by omega)
theorem hid_intro' {p:Prop} (h:p):Hid p:=h
theorem impl_printed (s:ByteArray) (w:World) (hs:s.size≤1048576) :
 Calls Tryz.prog 219 #[.string s] w fun e w'=>e=.returned (.bool (printB s))∧Below w.heap.size w w':=by
 have HB:∀pos,Hid (Below w.heap.size w (w.iter s pos)):=fun pos=>(Below.refl w.heap.size w).alloc (Nat.le_refl _) _
 go_enter Tryz.func219,Tryz.ntmps219
 go_wp2
 go_loopw [2] (fun _ w'=>∃pos:Nat,w'=w.iter s pos∧upTo s pos∧pos≤s.size) (fun _ w'=>s.size-w'.iterPos w.heap.size)
 case atStart=>exact ⟨0,rfl,upTo_zero s,Nat.zero_le _⟩
 case round =>
  obtain ⟨pos,rfl,hu,hle⟩:=hrel
  by_cases hp:pos<s.size
  ·have HN:=print_no (s:=s) hp
   have HY:=upTo_succ hu hp
   by_cases ha:(s[pos]'hp).toNat<128
   ·have hnx:∀ty,(Instr.next (.pointer (some ⟨w.heap.size,0,none⟩)) true ty).run Tryz.prog (w.iter s pos)=_:=fun ty=>run_next_ascii w s pos ty hp ha
    obtain ⟨c,hc⟩:∃c,c=(s[pos]'hp).toNat:=⟨_,rfl⟩
    rw [←hc] at HN HY ha hnx
    have HN':=hid_intro' HN
    have HY':=hid_intro' HY
    clear HN HY hc hu
    rcases (show ((c:Int)<33)∨(33≤(c:Int)∧(c:Int)≤126)∨(126<(c:Int)) by omega) with h|⟨h1,h2⟩|h
    ·have h':¬33≤(c:Int):=by omega
     go_wp2
     go_ret
     exact ⟨ret_bool (HN'.out (by unfold seen;simp;omega)).symm,(HB _).out⟩
    ·go_wp2
     go_roundw
     case rel=>exact ⟨pos+1,rfl,HY'.out (by unfold seen;simp;omega),by omega⟩
     case measure=>simp;omega
    ·have h':¬(c:Int)≤126:=by omega
     have h'':33≤(c:Int):=by omega
     go_wp2
     go_ret
     exact ⟨ret_bool (HN'.out (by unfold seen;simp;omega)).symm,(HB _).out⟩
   ·have hnx:∀ty,(Instr.next (.pointer (some ⟨w.heap.size,0,none⟩)) true ty).run Tryz.prog (w.iter s pos)=_:=fun ty=>run_next_any w s pos ty hp
    obtain ⟨d1,d2⟩:=decode_high s pos hp (by omega)
    have HN':=hid_intro' (HN (by unfold seen;simp;omega))
    clear HN HY hu
    generalize (Utf8.decode s pos).1=c at *
    generalize (Utf8.decode s pos).2=k at *
    have h':¬(c:Int)≤126:=by omega
    have h'':33≤(c:Int):=by omega
    go_wp2
    go_ret
    exact ⟨ret_bool HN'.out.symm,(HB _).out⟩
  ·have hnx:∀ty,(Instr.next (.pointer (some ⟨w.heap.size,0,none⟩)) true ty).run Tryz.prog (w.iter s pos)=_:=fun ty=>run_next_end w s pos ty hp
   go_wp2
   go_ret
   obtain rfl:pos=s.size:=by omega
   exact ⟨ret_bool (print_yes hu).symm,(HB _).out⟩
theorem spec_word (s:ByteArray) (most:Int) (w:World) (hs:s.size≤1048576) :
 Calls Tryz.prog 105 #[.string s,.int .i64 most] w fun e w'=>e=.returned (.bool (printB s&&decide ((s.size:Int)≤most)))∧w'=w:=by
 go_enter Tryz.func105,Tryz.ntmps105
 go_wp2
 go_loop [5] (fun i=>∃k:Nat,k≤s.size∧i=.int .i64 k∧upTo s k) (fun i=>s.size-(intOf i).toNat)
 case atStart=>exact ⟨0,Nat.zero_le _,rfl,upTo_zero s⟩
 case round =>
  obtain ⟨k,hk,rfl,hu⟩:=hrel
  by_cases hlt:k<s.size
  ·have HN:=hid_intro' (print_no (s:=s) hlt)
   have HY:=hid_intro' (upTo_succ hu hlt)
   clear hu
   rcases (show ((s[k].toNat:Int)<33)∨(¬(s[k].toNat:Int)<33∧(s[k].toNat:Int)≤126)∨(¬(s[k].toNat:Int)<33∧126<(s[k].toNat:Int)) by omega) with h|⟨h1,h2⟩|⟨h1,h2⟩
   ·go_wp2
    go_ret
    exact ⟨ret_bool (by rw [HN.out (by unfold seen;simp;omega)];rfl),rfl⟩
   ·have h3:¬126<(s[k].toNat:Int):=by omega
    go_wp2
    go_round
    case rel=>exact ⟨k+1,by omega,by go_num,HY.out (by unfold seen;simp;omega)⟩
    case measure=>simp [intOf];omega
   ·go_wp2
    go_ret
    exact ⟨ret_bool (by rw [HN.out (by unfold seen;simp;omega)];rfl),rfl⟩
  ·obtain rfl:k=s.size:=by omega
   have HP:=hid_intro' (print_yes hu)
   clear hu
   by_cases hm:(s.size:Int)≤most
   all_goals
    go_wp2
    go_ret
    exact ⟨ret_bool (by simp [HP.out,hm]),rfl⟩
end WordR
namespace EvtR
open WordR
theorem H_ {p:Prop} (h:p):Hid p:=h
def idB (s:ByteArray):Bool:=decide (1≤s.size∧s.size≤20)&&printB s
theorem impl_id (s:ByteArray) (w:World) (hs:s.size≤1048576):Calls Tryz.prog 204 #[.string s] w fun e w'=>e=.returned (.bool (idB s))∧Below w.heap.size w w':=by
 have HP:=H_ (fun w=>impl_printed s w hs)
 unfold idB
 generalize printB s=p at *
 rcases (show (¬1≤s.size)∨(1≤s.size∧¬s.size≤20)∨(1≤s.size∧s.size≤20) by omega) with h|⟨h1,h2⟩|⟨h1,h2⟩
 ·have h':¬(1:Int)≤(s.size:Int):=by omega
  go_enter Tryz.func204,Tryz.ntmps204
  go_wp2_with (go_at_call 167;go_in)
  go_ret
  exact ⟨ret_bool (by first|(simp;done)|(simp;omega)),Below.refl _ _⟩
 ·have h':(1:Int)≤(s.size:Int):=by omega
  have h'':¬(s.size:Int)≤20:=by omega
  go_enter Tryz.func204,Tryz.ntmps204
  go_wp2_with (go_at_call 167;go_in)
  go_ret
  exact ⟨ret_bool (by first|(simp;done)|(simp;omega)),Below.refl _ _⟩
 ·have h':(1:Int)≤(s.size:Int):=by omega
  have h'':(s.size:Int)≤20:=by omega
  go_enter Tryz.func204,Tryz.ntmps204
  go_wp2_with (first|(go_at_call 167;go_in)|(go_at_call 219;refine (HP.out _).mono ?_;rintro e w1 ⟨rfl,hb1⟩))
  go_ret
  exact ⟨ret_bool (by simp [h1,h2]),hb1⟩
theorem within_any (n low high:Int) (w:World) :
 Calls Tryz.prog 30 #[.int .i64 n,.int .i64 low,.int .i64 high] w fun e w'=>e=.returned (.bool (decide (low≤n∧n≤high)))∧w'=w:=by
 rcases (show (¬low≤n)∨(low≤n∧¬n≤high)∨(low≤n∧n≤high) by omega) with h|⟨h1,h2⟩|⟨h1,h2⟩
 all_goals
  go_enter Tryz.func30,Tryz.ntmps30
  go_wp2
  go_ret
  exact ⟨ret_bool (by first|(simp [*];done)|(simp;omega)),rfl⟩
theorem minute_any (n:Int) (w:World):Calls Tryz.prog 122 #[.int .i64 n] w fun e w'=>e=.returned (.bool (decide (0≤n∧n≤121000000)))∧w'=w:=by
 have H:=within_any n 0 121000000
 generalize decide (0≤n∧n≤121000000)=b at *
 go_enter Tryz.func122,Tryz.ntmps122
 go_wp2_with (go_at_call 30;refine (H _).mono ?_;rintro e w' ⟨rfl,rfl⟩)
 go_ret
 exact ⟨rfl,rfl⟩
theorem is_any (n low high:Int) (w:World) :
 Calls Tryz.prog 63 #[.int .i64 n,.int .i64 low,.int .i64 high] w fun e w'=>e=.returned (.bool (decide (low≤n∧n≤high)))∧w'=w:=by
 rcases (show (¬low≤n)∨(low≤n∧¬n≤high)∨(low≤n∧n≤high) by omega) with h|⟨h1,h2⟩|⟨h1,h2⟩
 all_goals
  go_enter Tryz.func63,Tryz.ntmps63
  go_wp2
  go_ret
  exact ⟨ret_bool (by first|(simp [*];done)|(simp;omega)),rfl⟩
theorem sminute_any (n:Int) (w:World):Calls Tryz.prog 21 #[.int .i64 n] w fun e w'=>e=.returned (.bool (decide (0≤n∧n≤121000000)))∧w'=w:=by
 have H:=is_any n 0 121000000
 generalize decide (0≤n∧n≤121000000)=b at *
 go_enter Tryz.func21,Tryz.ntmps21
 go_wp2_with (go_at_call 63;refine (H _).mono ?_;rintro e w' ⟨rfl,rfl⟩)
 go_ret
 exact ⟨rfl,rfl⟩
theorem empty_of (i:ByteArray) (h:i.size=0):i.toList=[]:=by
 rw [ByteArray.toList_eq]
 exact List.eq_nil_of_length_eq_zero h
theorem full_of (i:ByteArray) (h:i.size≠0):i.toList≠[]∧i.toList.isEmpty=false:=by
 have a:i.toList≠[]:=by
  rw [ByteArray.toList_eq]
  intro e
  exact h (show i.data.toList.length=0 by rw [e];rfl)
 exact ⟨a,by cases hl:i.toList with
  | nil=>exact absurd hl a
  | cons x l=>rfl⟩
end EvtR
namespace EvtR
open NameR WordR
def ev (i a m:ByteArray) (n k:Int) (t:ByteArray):Value:=.agg #[.string i,.string a,.string m,.int .i64 n,.int .i64 k,.string t]
def tagB (s:ByteArray):Bool:=decide (s.size≤10)&&printB s
theorem six (b1 b2 b3 b4 b5 b6:Bool):(b1=false)∨(b1=true∧b2=false)∨(b1=true∧b2=true∧b3=false)∨(b1=true∧b2=true∧b3=true∧b4=false)∨(b1=true∧b2=true∧b3=true∧b4=true∧b5=false)∨(b1=true∧b2=true∧b3=true∧b4=true∧b5=true∧b6=false)∨(b1=true∧b2=true∧b3=true∧b4=true∧b5=true∧b6=true):=by
 cases b1<;>cases b2<;>cases b3<;>cases b4<;>cases b5<;>cases b6<;>simp
theorem impl_tag (s:ByteArray) (w:World) (hs:s.size≤1048576):Calls Tryz.prog 221 #[.string s] w fun e w'=>e=.returned (.bool (tagB s))∧Below w.heap.size w w':=by
 have HP:=H_ (fun w=>impl_printed s w hs)
 unfold tagB
 generalize printB s=p at *
 by_cases h:s.size≤10
 ·have h':(s.size:Int)≤10:=by omega
  go_enter Tryz.func221,Tryz.ntmps221
  go_wp2_with (go_at_call 219;refine (HP.out _).mono ?_;rintro e w1 ⟨rfl,hb1⟩)
  go_ret
  exact ⟨ret_bool (by simp [h]),hb1⟩
 ·have h':¬(s.size:Int)≤10:=by omega
  go_enter Tryz.func221,Tryz.ntmps221
  go_wp2_with fail
  go_ret
  exact ⟨ret_bool (by first|(simp;done)|(simp;omega)),Below.refl _ _⟩
end EvtR
end Go.Proofs.YtnceeaccbcfopaaGreatDoor
