/-
  Names of sources that are right: both sides say the same. The condition: at most 1048576 names of at most 1048576 bytes.
-/
import Derived.Deep.RegionHeld3
import Derived.BigQuiet
import Derived.Deep.QuietTactic
import Derived.Test.YtnceeaccbcfopaaGreatDoorT20
namespace Go.Proofs.YtnceeaccbcfopaaGreatDoor
open Go.ChangeShapes Go.WideShapes Go.ChangeAt Go.RowKit
set_option linter.unusedVariables false
namespace StxR
open RowG LtR
open NameR (nameB)
def ahd (ns:List ByteArray):Nat→ByteArray
 | 0=>⟨#[]⟩
 | k+1=>ns.getD k tz
def NOk (ns:List ByteArray) (k:Nat):Prop:=∀i,i<k→lt (ahd ns i) (ns.getD i tz)=true∧nameB (ns.getD i tz)=true
def NRight (ns:List ByteArray):Prop:=(1≤ns.length∧ns.length≤3)∧NOk ns ns.length
def NOkDec (ns:List ByteArray) (k:Nat):Decidable (NOk ns k):=inferInstanceAs (Decidable (∀i,i<k→lt (ahd ns i) (ns.getD i tz)=true∧nameB (ns.getD i tz)=true))
def NRightDec (ns:List ByteArray):Decidable (NRight ns) :=
 haveI:=NOkDec ns ns.length
 inferInstanceAs (Decidable ((1≤ns.length∧ns.length≤3)∧NOk ns ns.length))
def nsB (ns:List ByteArray):Bool:=@decide (NRight ns) (NRightDec ns)
theorem nsB_no {ns:List ByteArray} (h:¬NRight ns):nsB ns=false:=by unfold nsB;exact @decide_eq_false _ (NRightDec ns) h
theorem nsB_yes {ns:List ByteArray} (h:NRight ns):nsB ns=true:=by unfold nsB;exact @decide_eq_true _ (NRightDec ns) h
theorem nsB_iff {ns:List ByteArray}:nsB ns=true↔NRight ns:=by unfold nsB;exact @decide_eq_true_iff _ (NRightDec ns)
theorem NOk.zero (ns:List ByteArray):NOk ns 0:=fun i h=>absurd h (by omega)
theorem NOk.more {ns:List ByteArray} {k:Nat} (h:NOk ns k) (h1:lt (ahd ns k) (ns.getD k tz)=true) (h2:nameB (ns.getD k tz)=true):NOk ns (k+1):=by
 intro i hi
 by_cases e:i=k
 ·subst e;exact ⟨h1,h2⟩
 ·exact h i (by omega)
theorem nsB_false {ns:List ByteArray} {k:Nat} (hk:k<ns.length) (h:¬(lt (ahd ns k) (ns.getD k tz)=true∧nameB (ns.getD k tz)=true)):nsB ns=false:=nsB_no (fun hr=>h (hr.2 k hk))
theorem nsB_len {ns:List ByteArray} (h:¬(1≤ns.length∧ns.length≤3)):nsB ns=false:=nsB_no (fun hr=>h hr.1)
theorem name_posN {s:ByteArray} (h:nameB s=true):1≤s.size:=by
 unfold nameB at h
 simp at h
 exact h.1
theorem le_casesN (x a:ByteArray):(Op.bytesLess x.toList a.toList=true∧lt a x=false)∨(Op.bytesLess x.toList a.toList=false∧x.toList=a.toList∧(x.toList==a.toList)=true∧lt a x=false)∨(Op.bytesLess x.toList a.toList=false∧x.toList≠a.toList∧(x.toList==a.toList)=false∧lt a x=true):=by
 cases h:lt x a
 ·by_cases e:x=a
  ·subst e;exact .inr (.inl ⟨h,rfl,by simp,h⟩)
  ·have ne:x.toList≠a.toList:=fun q=>e (toList_inj q)
   refine .inr (.inr ⟨h,ne,by simpa using ne,?_⟩)
   cases h2:lt a x
   ·exact absurd (lt_total h h2) e
   ·rfl
 ·exact .inl ⟨h,lt_asymm h⟩
theorem with_yes (len:Nat) (w:World) (h41:(len:Int)≤3) (h42:(1:Int)≤(len:Int)):Calls Tryz.prog 167 #[.int .i64 (len:Int),.int .i64 1,.int .i64 3] w fun e w'=>e=.returned (.bool true)∧w'=w:=by
 go_enter Tryz.func167,Tryz.ntmps167
 go_wp2_with fail
 go_ret
 exact ⟨rfl,rfl⟩
set_option maxRecDepth 100000 in
set_option maxHeartbeats 4000000 in
theorem impl_names (ao:Option Addr) (cap:Nat) (ns:List ByteArray) (w:World) (hlen:ns.length≤1048576) (hS:∀e∈ns,e.size≤1048576) (hI:Tgs ao ns w) :
 Calls Tryz.prog 123 #[.slice ao ns.length cap] w fun e w'=>e=.returned (.bool (nsB ns))∧Below w.heap.size w w':=by
 by_cases h40:1≤ns.length∧ns.length≤3
 rotate_left
 ·have HR:=H_ (nsB_len h40)
  obtain ⟨len,hl⟩:∃len,len=ns.length:=⟨_,rfl⟩
  rw [←hl] at hlen h40 ⊢
  clear hI hS hl
  rcases (show len=0∨3<len by omega) with rfl|h4
  ·go_enter Tryz.func123,Tryz.ntmps123
   go_wp2_with (go_at_call 167;go_in)
   go_ret
   exact ⟨ret_bool HR.out.symm,Below.refl _ _⟩
  ·have h41:¬(len:Int)≤3:=by omega
   have h42:(1:Int)≤(len:Int):=by omega
   go_enter Tryz.func123,Tryz.ntmps123
   go_wp2_with (go_at_call 167;go_in)
   go_ret
   exact ⟨ret_bool HR.out.symm,Below.refl _ _⟩
 ·have HT0:=H_ (fun k (hk:k<ns.length)=>nsB_false (ns:=ns) hk)
  have HTE:=H_ (fun h=>nsB_yes (ns:=ns) ⟨h40,h⟩)
  have HI:=H_ hI
  have HS:=H_ hS
  obtain ⟨len,hl⟩:∃len,len=ns.length:=⟨_,rfl⟩
  rw [←hl] at hlen h40 ⊢
  have HL:=H_ hl
  have h41:(len:Int)≤3:=by omega
  have h42:(1:Int)≤(len:Int):=by omega
  clear hI hS hl
  generalize nsB ns=R at *
  go_enter Tryz.func123,Tryz.ntmps123
  go_wp2_with (go_at_call 167;refine (with_yes len _ h41 h42).mono ?_;rintro e w1 ⟨rfl,hw1⟩;rw [hw1];clear hw1 w1)
  go_loopw [3,12] (fun x z wr=>∃k:Nat,k≤len∧x=.string (ahd ns k)∧z=.int .i64 k∧Hid (NOk ns k)∧Hid (Below w.heap.size w wr)) (fun x z _=>len-(intOf z).toNat)
  case atStart=>exact ⟨0,by omega,rfl,rfl,H_ (NOk.zero ns),H_ (Below.refl _ _)⟩
  case round =>
   obtain ⟨k,hk,rfl,rfl,HK,HB⟩:=hrel
   by_cases hlt:k<len
   ·have hlt2:(k:Int)<(len:Int):=by omega
    obtain ⟨b,off,rfl,hbl,c0⟩:=(HI.out.below HB.out).at k (by have:=HL.out;omega)
    have hsz:=HS.out _ (getD_mem (z:=tz) ns k (by have:=HL.out;omega))
    have HM:=H_ (fun h1 h2=>HK.out.more (k:=k) h1 h2)
    have HF:=H_ (HT0.out k (by have:=HL.out;omega))
    have HA:Hid (ahd ns (k+1)=ns.getD k tz):=rfl
    generalize ahd ns k=a at *
    generalize ns.getD k tz=xi at *
    have H1:=H_ (fun w=>NameR.impl_any xi w hsz)
    rcases le_casesN xi a with ⟨q1,q2⟩|⟨q1,q3,q4,q2⟩|⟨q1,q3,q4,q2⟩
    ·have HR:Hid (R=false):=H_ (HF.out (fun h=>by rw [q2] at h;exact absurd h.1 (by simp)))
     clear HM HF q2
     go_wp2_with fail
     go_ret
     exact ⟨ret_bool HR.out.symm,HB.out⟩
    ·have HR:Hid (R=false):=H_ (HF.out (fun h=>by rw [q2] at h;exact absurd h.1 (by simp)))
     clear HM HF q2
     go_wp2_with fail
     go_ret
     exact ⟨ret_bool HR.out.symm,HB.out⟩
    ·generalize nameB xi=b1 at *
     cases b1
     ·have HR:Hid (R=false):=H_ (HF.out (fun h=>absurd h.2 (by simp)))
      clear HM HF q2
      go_wp2_with (go_at_call 166;refine (H1.out _).mono ?_;rintro e w1 ⟨rfl,rfl⟩)
      go_ret
      exact ⟨ret_bool HR.out.symm,HB.out⟩
     ·replace HM:=H_ (HM.out q2 rfl)
      clear HF q2
      go_wp2_with (go_at_call 166;refine (H1.out _).mono ?_;rintro e w1 ⟨rfl,rfl⟩)
      go_roundw
      case rel=>exact ⟨k+1,by omega,by rw [HA.out],by go_num,HM,HB⟩
      case measure=>simp [intOf];omega
   ·have hlt2:¬(k:Int)<(len:Int):=by omega
    obtain rfl:k=len:=by omega
    have HR:Hid (R=true):=H_ (HTE.out (by rw [←HL.out];exact HK.out))
    go_wp2_with fail
    go_ret
    exact ⟨ret_bool HR.out.symm,HB.out⟩
def scells (t:ByteArray):List Value:=[.string t,.int .i64 0]
def Srs (ao:Option Addr) (ns:List ByteArray) (w:World):Prop:=Rws 2 scells tz ao ns w
theorem Srs.below {ao:Option Addr} {ns:List ByteArray} {w w':World} (h:Srs ao ns w) (hb:Below w.heap.size w w'):Srs ao ns w':=Rws.below h hb
theorem Srs.at {ao:Option Addr} {ns:List ByteArray} {w:World} (h:Srs ao ns w) (j:Nat) (hj:j<ns.length):∃b off,ao=some ⟨b,off,none⟩∧b<w.heap.size∧w.cell? ⟨b,off+j*2,none⟩=some (.string (ns.getD j tz))∧w.cell? ⟨b,off+j*2+1,none⟩=some (.int .i64 0):=by
 obtain ⟨b,off,h1,h2,h3⟩:=Rws.at h j hj
 exact ⟨b,off,h1,h2,h3 0 (by omega),h3 1 (by omega)⟩
end StxR
end Go.Proofs.YtnceeaccbcfopaaGreatDoor
