/-
  Names of sources that are right: both sides say the same. The condition: at most 1048576 names of at most 1048576 bytes.
  Tiers, meters, credits and catalogs as rows of cells. No condition.
  What is right of tiers, meters, credits and catalogs, in numbers. No condition.
  What the program and the model call right tiers, and a right meter: they are one. The condition: the name has at most 1048576 bytes.
  What the model calls right tiers. The condition: at most 1048576 of them.
  The law's own helpers over tiers and meters: their sizes, copies, and two held against each other. The condition: the tiers are at most 1048576.
-/
import Derived.Deep.RegionHeld3
import Derived.BigQuiet
import Derived.Deep.QuietTactic
import Derived.Deep.RegionWith
import Derived.OwnWalk
import Derived.Test.YtmalfhhkjdkadaaGreatDoorN1
namespace Go.Proofs.YtmalfhhkjdkadaaGreatDoor
open Go.ChangeShapes Go.WideShapes Go.ChangeAt Go.RowKit
set_option linter.unusedVariables false
namespace StxR
open RowG LtR
open NameR (nameB)
def ahd (ns:List ByteArray):Nat→ByteArray
 | 0=>⟨#[]⟩
 | k+1=>ns.getD k tz
def NOk (ns:List ByteArray) (k:Nat):Prop:=∀i,i<k→lt (ahd ns i) (ns.getD i tz)=true∧nameB (ns.getD i tz)=true
def NRight (ns:List ByteArray):Prop:=(1≤ns.length∧ns.length≤3)∧NOk ns ns.length
def NOkDec (ns:List ByteArray) (k:Nat):Decidable (NOk ns k):=inferInstanceAs (Decidable (∀i,i<k→lt (ahd ns i) (ns.getD i tz)=true∧nameB (ns.getD i tz)=true))
def NRightDec (ns:List ByteArray):Decidable (NRight ns) :=
 haveI:=NOkDec ns ns.length
 inferInstanceAs (Decidable ((1≤ns.length∧ns.length≤3)∧NOk ns ns.length))
def nsB (ns:List ByteArray):Bool:=@decide (NRight ns) (NRightDec ns)
theorem nsB_no {ns:List ByteArray} (h:¬NRight ns):nsB ns=false:=by unfold nsB;exact @decide_eq_false _ (NRightDec ns) h
theorem nsB_yes {ns:List ByteArray} (h:NRight ns):nsB ns=true:=by unfold nsB;exact @decide_eq_true _ (NRightDec ns) h
theorem nsB_iff {ns:List ByteArray}:nsB ns=true↔NRight ns:=by unfold nsB;exact @decide_eq_true_iff _ (NRightDec ns)
theorem NOk.zero (ns:List ByteArray):NOk ns 0:=fun i h=>absurd h (by omega)
theorem NOk.more {ns:List ByteArray} {k:Nat} (h:NOk ns k) (h1:lt (ahd ns k) (ns.getD k tz)=true) (h2:nameB (ns.getD k tz)=true):NOk ns (k+1):=by
 intro i hi
 by_cases e:i=k
 ·subst e;exact ⟨h1,h2⟩
 ·exact h i (by omega)
theorem nsB_false {ns:List ByteArray} {k:Nat} (hk:k<ns.length) (h:¬(lt (ahd ns k) (ns.getD k tz)=true∧nameB (ns.getD k tz)=true)):nsB ns=false:=nsB_no (fun hr=>h (hr.2 k hk))
theorem nsB_len {ns:List ByteArray} (h:¬(1≤ns.length∧ns.length≤3)):nsB ns=false:=nsB_no (fun hr=>h hr.1)
theorem name_posN {s:ByteArray} (h:nameB s=true):1≤s.size:=by
 unfold nameB at h
 simp at h
 exact h.1
theorem le_casesN (x a:ByteArray):(Op.bytesLess x.toList a.toList=true∧lt a x=false)∨(Op.bytesLess x.toList a.toList=false∧x.toList=a.toList∧(x.toList==a.toList)=true∧lt a x=false)∨(Op.bytesLess x.toList a.toList=false∧x.toList≠a.toList∧(x.toList==a.toList)=false∧lt a x=true):=by
 cases h:lt x a
 ·by_cases e:x=a
  ·subst e;exact .inr (.inl ⟨h,rfl,by simp,h⟩)
  ·have ne:x.toList≠a.toList:=fun q=>e (toList_inj q)
   refine .inr (.inr ⟨h,ne,by simpa using ne,?_⟩)
   cases h2:lt a x
   ·exact absurd (lt_total h h2) e
   ·rfl
 ·exact .inl ⟨h,lt_asymm h⟩
theorem with_yes (len:Nat) (w:World) (h41:(len:Int)≤3) (h42:(1:Int)≤(len:Int)):Calls Tryz.prog 156 #[.int .i64 (len:Int),.int .i64 1,.int .i64 3] w fun e w'=>e=.returned (.bool true)∧w'=w:=by
 go_enter Tryz.func156,Tryz.ntmps156
 go_wp2_with fail
 go_ret
 exact ⟨rfl,rfl⟩
set_option maxRecDepth 100000 in
set_option maxHeartbeats 4000000 in
theorem impl_names (ao:Option Addr) (cap:Nat) (ns:List ByteArray) (w:World) (hlen:ns.length≤1048576) (hS:∀e∈ns,e.size≤1048576) (hI:Tgs ao ns w) :
 Calls Tryz.prog 116 #[.slice ao ns.length cap] w fun e w'=>e=.returned (.bool (nsB ns))∧Below w.heap.size w w':=by
 by_cases h40:1≤ns.length∧ns.length≤3
 rotate_left
 ·have HR:=hid_intro (nsB_len h40)
  obtain ⟨len,hl⟩:∃len,len=ns.length:=⟨_,rfl⟩
  rw [←hl] at hlen h40 ⊢
  clear hI hS hl
  rcases (show len=0∨3<len by omega) with rfl|h4
  ·go_enter Tryz.func116,Tryz.ntmps116
   go_wp2_with (go_at_call 156;go_in)
   go_ret
   exact ⟨ret_bool HR.out.symm,Below.refl _ _⟩
  ·have h41:¬(len:Int)≤3:=by omega
   have h42:(1:Int)≤(len:Int):=by omega
   go_enter Tryz.func116,Tryz.ntmps116
   go_wp2_with (go_at_call 156;go_in)
   go_ret
   exact ⟨ret_bool HR.out.symm,Below.refl _ _⟩
 ·have HT0:=hid_intro (fun k (hk:k<ns.length)=>nsB_false (ns:=ns) hk)
  have HTE:=hid_intro (fun h=>nsB_yes (ns:=ns) ⟨h40,h⟩)
  have HI:=hid_intro hI
  have HS:=hid_intro hS
  obtain ⟨len,hl⟩:∃len,len=ns.length:=⟨_,rfl⟩
  rw [←hl] at hlen h40 ⊢
  have HL:=hid_intro hl
  have h41:(len:Int)≤3:=by omega
  have h42:(1:Int)≤(len:Int):=by omega
  clear hI hS hl
  generalize nsB ns=R at *
  go_enter Tryz.func116,Tryz.ntmps116
  go_wp2_with (go_at_call 156;refine (with_yes len _ h41 h42).mono ?_;rintro e w1 ⟨rfl,hw1⟩;rw [hw1];clear hw1 w1)
  go_loopw [3,12] (fun x z wr=>∃k:Nat,k≤len∧x=.string (ahd ns k)∧z=.int .i64 k∧Hid (NOk ns k)∧Hid (Below w.heap.size w wr)) (fun x z _=>len-(intOf z).toNat)
  case atStart=>exact ⟨0,by omega,rfl,rfl,hid_intro (NOk.zero ns),hid_intro (Below.refl _ _)⟩
  case round =>
   obtain ⟨k,hk,rfl,rfl,HK,HB⟩:=hrel
   by_cases hlt:k<len
   ·have hlt2:(k:Int)<(len:Int):=by omega
    obtain ⟨b,off,rfl,hbl,c0⟩:=(HI.out.below HB.out).at k (by have:=HL.out;omega)
    have hsz:=HS.out _ (getD_mem (z:=tz) ns k (by have:=HL.out;omega))
    have HM:=hid_intro (fun h1 h2=>HK.out.more (k:=k) h1 h2)
    have HF:=hid_intro (HT0.out k (by have:=HL.out;omega))
    have HA:Hid (ahd ns (k+1)=ns.getD k tz):=rfl
    generalize ahd ns k=a at *
    generalize ns.getD k tz=xi at *
    have H1:=hid_intro (fun w=>NameR.impl_any xi w hsz)
    rcases le_casesN xi a with ⟨q1,q2⟩|⟨q1,q3,q4,q2⟩|⟨q1,q3,q4,q2⟩
    ·have HR:Hid (R=false):=hid_intro (HF.out (fun h=>by rw [q2] at h;exact absurd h.1 (by simp)))
     clear HM HF q2
     go_wp2_with fail
     go_ret
     exact ⟨ret_bool HR.out.symm,HB.out⟩
    ·have HR:Hid (R=false):=hid_intro (HF.out (fun h=>by rw [q2] at h;exact absurd h.1 (by simp)))
     clear HM HF q2
     go_wp2_with fail
     go_ret
     exact ⟨ret_bool HR.out.symm,HB.out⟩
    ·generalize nameB xi=b1 at *
     cases b1
     ·have HR:Hid (R=false):=hid_intro (HF.out (fun h=>absurd h.2 (by simp)))
      clear HM HF q2
      go_wp2_with (go_at_call 126;refine (H1.out _).mono ?_;rintro e w1 ⟨rfl,rfl⟩)
      go_ret
      exact ⟨ret_bool HR.out.symm,HB.out⟩
     ·replace HM:=hid_intro (HM.out q2 rfl)
      clear HF q2
      go_wp2_with (go_at_call 126;refine (H1.out _).mono ?_;rintro e w1 ⟨rfl,rfl⟩)
      go_roundw
      case rel=>exact ⟨k+1,by omega,by rw [HA.out],by go_num,HM,HB⟩
      case measure=>simp [intOf];omega
   ·have hlt2:¬(k:Int)<(len:Int):=by omega
    obtain rfl:k=len:=by omega
    have HR:Hid (R=true):=hid_intro (HTE.out (by rw [←HL.out];exact HK.out))
    go_wp2_with fail
    go_ret
    exact ⟨ret_bool HR.out.symm,HB.out⟩
def scells (t:ByteArray):List Value:=[.string t,.int .i64 0]
theorem s_len (t:ByteArray):(scells t).length=2:=rfl
def Srs (ao:Option Addr) (ns:List ByteArray) (w:World):Prop:=Rws 2 scells tz ao ns w
theorem Srs.below {ao:Option Addr} {ns:List ByteArray} {w w':World} (h:Srs ao ns w) (hb:Below w.heap.size w w'):Srs ao ns w':=Rws.below h hb
theorem Srs.at {ao:Option Addr} {ns:List ByteArray} {w:World} (h:Srs ao ns w) (j:Nat) (hj:j<ns.length):∃b off,ao=some ⟨b,off,none⟩∧b<w.heap.size∧w.cell? ⟨b,off+j*2,none⟩=some (.string (ns.getD j tz))∧w.cell? ⟨b,off+j*2+1,none⟩=some (.int .i64 0):=by
 obtain ⟨b,off,h1,h2,h3⟩:=Rws.at h j hj
 exact ⟨b,off,h1,h2,h3 0 (by omega),h3 1 (by omega)⟩
theorem sminute (w:World):Calls Tryz.prog 97 #[.int .i64 0] w fun e w'=>e=.returned (.bool true)∧w'=w:=by
 go_enter Tryz.func97,Tryz.ntmps97
 go_wp2_with (go_at_call 95;go_in)
 go_ret
 exact ⟨rfl,rfl⟩
set_option maxRecDepth 100000 in
set_option maxHeartbeats 4000000 in
theorem spec_srcs (ao:Option Addr) (cap:Nat) (ns:List ByteArray) (w:World) (hlen:ns.length≤1048576) (hS:∀e∈ns,e.size≤1048576) (hI:Srs ao ns w) :
 Calls Tryz.prog 52 #[.slice ao ns.length cap] w fun e w'=>e=.returned (.bool (nsB ns))∧Below w.heap.size w w':=by
 have HT0:=hid_intro (fun k (hk:k<ns.length)=>nsB_false (ns:=ns) hk)
 have HTE:Hid (NOk ns ns.length→nsB ns=decide (1≤ns.length∧ns.length≤3)):=hid_intro (fun h=>by
  by_cases e:1≤ns.length∧ns.length≤3
  ·rw [decide_eq_true e];exact nsB_yes ⟨e,h⟩
  ·rw [decide_eq_false e];exact nsB_no (fun hr=>e hr.1))
 have HI:=hid_intro hI
 have HS:=hid_intro hS
 obtain ⟨len,hl⟩:∃len,len=ns.length:=⟨_,rfl⟩
 rw [←hl] at hlen ⊢
 have HL:=hid_intro hl
 clear hI hS hl
 generalize nsB ns=R at *
 go_enter Tryz.func52,Tryz.ntmps52
 go_wp2_with fail
 go_loopw [3] (fun z wr=>∃k:Nat,k≤len∧z=.int .i64 k∧Hid (NOk ns k)∧Hid (Below w.heap.size w wr)) (fun z _=>len-(intOf z).toNat)
 case atStart=>exact ⟨0,by omega,rfl,hid_intro (NOk.zero ns),hid_intro (Below.refl _ _)⟩
 case round =>
  obtain ⟨k,hk,rfl,HK,HB⟩:=hrel
  by_cases hlt:k<len
  ·have hlt2:(k:Int)<(len:Int):=by omega
   obtain ⟨b,off,rfl,hbl,c0,c1⟩:=(HI.out.below HB.out).at k (by have:=HL.out;omega)
   have hsz:=HS.out _ (getD_mem (z:=tz) ns k (by have:=HL.out;omega))
   have HM:=hid_intro (fun h1 h2=>HK.out.more (k:=k) h1 h2)
   have HF:=hid_intro (HT0.out k (by have:=HL.out;omega))
   rcases (show k=0∨∃j,k=j+1 from by rcases k with _|j;exact .inl rfl;exact .inr ⟨j,rfl⟩) with rfl|⟨j,hkj⟩
   ·have HA:Hid (ahd ns 0=⟨#[]⟩):=rfl
    simp only [Nat.zero_mul,Nat.add_zero] at c0 c1
    generalize ahd ns 0=a at *
    generalize ns.getD 0 tz=xi at *
    have H1:=hid_intro (fun w=>NameR.spec_any xi w hsz)
    have HP:=hid_intro (name_posN (s:=xi))
    generalize nameB xi=b1 at *
    cases b1
    ·have HR:Hid (R=false):=hid_intro (HF.out (fun h=>absurd h.2 (by simp)))
     clear HM HF HP
     go_wp2_with fail
     go_quiet ((first|(go_at_call 20;exact Calls.quiet_of_same (H1.out _))|(go_at_call 97;exact Calls.quiet_of_same (sminute _))))
     go_wp2_with fail
     go_ret
     exact ⟨ret_bool HR.out.symm,bdN HB.out _⟩
    ·have HM2:=hid_intro (HM.out (by rw [HA.out];exact lt_empty (HP.out rfl)) rfl)
     clear HM HF HP
     go_wp2_with fail
     go_quiet ((first|(go_at_call 20;exact Calls.quiet_of_same (H1.out _))|(go_at_call 97;exact Calls.quiet_of_same (sminute _))))
     go_wp2_with fail
     go_roundw
     case rel=>exact ⟨0+1,by omega,by go_num,HM2,hid_intro (bdN HB.out _)⟩
     case measure=>simp [intOf];omega
   ·obtain ⟨b',off',hbo,hbl',d0,d1⟩:=(HI.out.below HB.out).at j (by have:=HL.out;omega)
    obtain ⟨rfl,rfl⟩:b=b'∧off=off':=by simpa using hbo
    have HA:Hid (ahd ns k=ns.getD j tz):=hid_intro (by rw [hkj];rfl)
    clear d1 hbl' hbo
    generalize ns.getD j tz=yi at *
    generalize ahd ns k=a at *
    generalize ns.getD k tz=xi at *
    have H1:=hid_intro (fun w=>NameR.spec_any xi w hsz)
    generalize nameB xi=b1 at *
    have hj1:IntKind.i64.wrap ((k:Int)-1)=(j:Int):=by rw [IntKind.wrap_i64];omega
    have hj2:0<k:=by omega
    have hj3:(j:Int)<(len:Int):=by omega
    clear hkj
    cases b1
    ·have HR:Hid (R=false):=hid_intro (HF.out (fun h=>absurd h.2 (by simp)))
     clear HM HF
     go_wp2_with fail
     go_quiet ((first|(go_at_call 20;exact Calls.quiet_of_same (H1.out _))|(go_at_call 97;exact Calls.quiet_of_same (sminute _))))
     go_wp2_with fail
     go_ret
     exact ⟨ret_bool HR.out.symm,bdN HB.out _⟩
    rcases le_casesN xi yi with ⟨q1,q2⟩|⟨q1,q3,q4,q2⟩|⟨q1,q3,q4,q2⟩
    ·have HR:Hid (R=false):=hid_intro (HF.out (fun h=>by rw [HA.out,q2] at h;exact absurd h.1 (by simp)))
     have q5:Op.bytesLess yi.toList xi.toList=false:=lt_asymm q1
     clear HM HF q2
     go_wp2_with fail
     go_quiet ((first|(go_at_call 20;exact Calls.quiet_of_same (H1.out _))|(go_at_call 97;exact Calls.quiet_of_same (sminute _))))
     go_wp2_with fail
     go_ret
     exact ⟨ret_bool HR.out.symm,bdN HB.out _⟩
    ·have HR:Hid (R=false):=hid_intro (HF.out (fun h=>by rw [HA.out,q2] at h;exact absurd h.1 (by simp)))
     obtain rfl:=toList_inj q3
     have q5:Op.bytesLess xi.toList xi.toList=false:=q1
     clear HM HF q2 q3 q4
     go_wp2_with fail
     go_quiet ((first|(go_at_call 20;exact Calls.quiet_of_same (H1.out _))|(go_at_call 97;exact Calls.quiet_of_same (sminute _))))
     go_wp2_with fail
     go_ret
     exact ⟨ret_bool HR.out.symm,bdN HB.out _⟩
    ·have q5:Op.bytesLess yi.toList xi.toList=true:=q2
     have HM2:=hid_intro (HM.out (by rw [HA.out];exact q2) rfl)
     clear HM HF q2
     go_wp2_with fail
     go_quiet ((first|(go_at_call 20;exact Calls.quiet_of_same (H1.out _))|(go_at_call 97;exact Calls.quiet_of_same (sminute _))))
     go_wp2_with fail
     go_roundw
     case rel=>exact ⟨k+1,by omega,by go_num,HM2,hid_intro (bdN HB.out _)⟩
     case measure=>simp [intOf];omega
  ·have hlt2:¬(k:Int)<(len:Int):=by omega
   obtain rfl:k=len:=by omega
   have HR:=hid_intro (HTE.out (by rw [←HL.out];exact HK.out))
   rw [←HL.out] at HR
   rcases (show k=0∨(1≤k∧k≤3)∨3<k by omega) with rfl|⟨h1,h3⟩|h3
   ·go_wp2_with (go_at_call 95;go_in)
    go_ret
    exact ⟨ret_bool (by rw [HR.out];rfl),HB.out⟩
   ·have h1':(1:Int)≤(k:Int):=by omega
    have h3':(k:Int)≤3:=by omega
    have HR2:Hid (R=true):=hid_intro (by rw [HR.out];exact decide_eq_true ⟨h1,h3⟩)
    clear HR h1 h3
    go_wp2_with (go_at_call 95;go_in)
    go_ret
    exact ⟨ret_bool HR2.out.symm,HB.out⟩
   ·have h1':(1:Int)≤(k:Int):=by omega
    have h3':¬(k:Int)≤3:=by omega
    have HR2:Hid (R=false):=hid_intro (by rw [HR.out];exact decide_eq_false (by omega))
    clear HR h3
    go_wp2_with (go_at_call 95;go_in)
    go_ret
    exact ⟨ret_bool HR2.out.symm,HB.out⟩
end StxR
namespace CatR
structure Ti where
 u:Int
 p:Int
structure Cr where
 a:ByteArray
 m:Int
structure Me where
 n:ByteArray
 g:Int
 wh:Bool
 f:Int
 l:Int
 ts:List Ti
structure Ca where
 ms:List Me
 cs:List Cr
def Ti.zero:Ti:=⟨0,0⟩
def Cr.zero:Cr:=⟨⟨#[]⟩,0⟩
def Me.zero:Me:=⟨⟨#[]⟩,0,false,0,0,[]⟩
def TiAt (w:World) (b o:Nat) (t:Ti):Prop:=w.cell? ⟨b,o,none⟩=some (.int .i64 t.u)∧w.cell? ⟨b,o+1,none⟩=some (.int .i64 t.p)
def CrAt (w:World) (b o:Nat) (t:Cr):Prop:=w.cell? ⟨b,o,none⟩=some (.string t.a)∧w.cell? ⟨b,o+1,none⟩=some (.int .i64 t.m)
def Tis (ao:Option Addr) (len:Nat) (ts:List Ti) (w:World):Prop:=ts.length=len∧(len=0∨∃b off,ao=some ⟨b,off,none⟩∧b<w.heap.size∧∀j,j<len→TiAt w b (off+j*2) (ts.getD j Ti.zero))
def Crs (ao:Option Addr) (len:Nat) (ts:List Cr) (w:World):Prop:=ts.length=len∧(len=0∨∃b off,ao=some ⟨b,off,none⟩∧b<w.heap.size∧∀j,j<len→CrAt w b (off+j*2) (ts.getD j Cr.zero))
def MeAt (w:World) (b o:Nat) (m:Me):Prop:=∃ta tc,w.cell? ⟨b,o,none⟩=some (.string m.n)∧w.cell? ⟨b,o+1,none⟩=some (.int .i64 m.g)∧w.cell? ⟨b,o+2,none⟩=some (.bool m.wh)∧w.cell? ⟨b,o+3,none⟩=some (.int .i64 m.f)∧w.cell? ⟨b,o+4,none⟩=some (.int .i64 m.l)∧w.cell? ⟨b,o+5,none⟩=some (.slice ta m.ts.length tc)∧Tis ta m.ts.length m.ts w
def Mes (ao:Option Addr) (len:Nat) (ms:List Me) (w:World):Prop:=ms.length=len∧(len=0∨∃b off,ao=some ⟨b,off,none⟩∧b<w.heap.size∧∀j,j<len→MeAt w b (off+j*6) (ms.getD j Me.zero))
def IsMe (v:Value) (m:Me) (w:World):Prop:=∃ta tc,v=.agg #[.string m.n,.int .i64 m.g,.bool m.wh,.int .i64 m.f,.int .i64 m.l,.slice ta m.ts.length tc]∧Tis ta m.ts.length m.ts w
def IsCa (v:Value) (c:Ca) (w:World):Prop:=∃ma mc ca cc,v=.agg #[.slice ma c.ms.length mc,.slice ca c.cs.length cc]∧Mes ma c.ms.length c.ms w∧Crs ca c.cs.length c.cs w
theorem TiAt.below {w w':World} {b o:Nat} {e:Ti} (h:TiAt w b o e) (hl:b<w.heap.size) (hb:Below w.heap.size w w'):TiAt w' b o e :=
 ⟨(hb.cell (p:=⟨b,o,none⟩) hl).trans h.1,(hb.cell (p:=⟨b,o+1,none⟩) hl).trans h.2⟩
theorem CrAt.below {w w':World} {b o:Nat} {e:Cr} (h:CrAt w b o e) (hl:b<w.heap.size) (hb:Below w.heap.size w w'):CrAt w' b o e :=
 ⟨(hb.cell (p:=⟨b,o,none⟩) hl).trans h.1,(hb.cell (p:=⟨b,o+1,none⟩) hl).trans h.2⟩
theorem Tis.below {ao:Option Addr} {len:Nat} {es:List Ti} {w w':World} (h:Tis ao len es w) (hb:Below w.heap.size w w'):Tis ao len es w':=by
 refine ⟨h.1,?_⟩
 rcases h.2 with h0|⟨b,off,rfl,hlt,hc⟩
 ·exact .inl h0
 ·exact .inr ⟨b,off,rfl,by have:=hb.size;omega,fun j hj=>(hc j hj).below hlt hb⟩
theorem Crs.below {ao:Option Addr} {len:Nat} {es:List Cr} {w w':World} (h:Crs ao len es w) (hb:Below w.heap.size w w'):Crs ao len es w':=by
 refine ⟨h.1,?_⟩
 rcases h.2 with h0|⟨b,off,rfl,hlt,hc⟩
 ·exact .inl h0
 ·exact .inr ⟨b,off,rfl,by have:=hb.size;omega,fun j hj=>(hc j hj).below hlt hb⟩
theorem MeAt.below {w w':World} {b o:Nat} {e:Me} (h:MeAt w b o e) (hl:b<w.heap.size) (hb:Below w.heap.size w w'):MeAt w' b o e:=by
 obtain ⟨ta,tc,h0,h1,h2,h3,h4,h5,h6⟩:=h
 have f:=fun k=>hb.cell (p:=⟨b,k,none⟩) hl
 exact ⟨ta,tc,(f _).trans h0,(f _).trans h1,(f _).trans h2,(f _).trans h3,(f _).trans h4,(f _).trans h5,h6.below hb⟩
theorem Mes.below {ao:Option Addr} {len:Nat} {es:List Me} {w w':World} (h:Mes ao len es w) (hb:Below w.heap.size w w'):Mes ao len es w':=by
 refine ⟨h.1,?_⟩
 rcases h.2 with h0|⟨b,off,rfl,hlt,hc⟩
 ·exact .inl h0
 ·exact .inr ⟨b,off,rfl,by have:=hb.size;omega,fun j hj=>(hc j hj).below hlt hb⟩
theorem IsMe.below {v:Value} {m:Me} {w w':World} (h:IsMe v m w) (hb:Below w.heap.size w w'):IsMe v m w':=by
 obtain ⟨ta,tc,hv,ht⟩:=h
 exact ⟨ta,tc,hv,ht.below hb⟩
theorem IsCa.below {v:Value} {m:Ca} {w w':World} (h:IsCa v m w) (hb:Below w.heap.size w w'):IsCa v m w':=by
 obtain ⟨ma,mc,ca,cc,hv,h1,h2⟩:=h
 exact ⟨ma,mc,ca,cc,hv,h1.below hb,h2.below hb⟩
theorem tis_at {ao:Option Addr} {len:Nat} {es:List Ti} {w:World} (h:Tis ao len es w) (k:Nat) (hk:k<len):∃b off,ao=some ⟨b,off,none⟩∧b<w.heap.size∧TiAt w b (off+k*2) (es.getD k Ti.zero):=by
 rcases h.2 with h0|⟨b,off,rfl,hlt,hc⟩
 ·omega
 ·exact ⟨b,off,rfl,hlt,hc k hk⟩
theorem crs_at {ao:Option Addr} {len:Nat} {es:List Cr} {w:World} (h:Crs ao len es w) (k:Nat) (hk:k<len):∃b off,ao=some ⟨b,off,none⟩∧b<w.heap.size∧CrAt w b (off+k*2) (es.getD k Cr.zero):=by
 rcases h.2 with h0|⟨b,off,rfl,hlt,hc⟩
 ·omega
 ·exact ⟨b,off,rfl,hlt,hc k hk⟩
theorem mes_at {ao:Option Addr} {len:Nat} {es:List Me} {w:World} (h:Mes ao len es w) (k:Nat) (hk:k<len):∃b off,ao=some ⟨b,off,none⟩∧b<w.heap.size∧MeAt w b (off+k*6) (es.getD k Me.zero):=by
 rcases h.2 with h0|⟨b,off,rfl,hlt,hc⟩
 ·omega
 ·exact ⟨b,off,rfl,hlt,hc k hk⟩
theorem getD_memG {α:Type} (es:List α) (d:α) (k:Nat) (h:k<es.length):es.getD k d∈es:=by
 have:es.getD k d=es[k]:=by simp [List.getD,h]
 rw [this];exact List.getElem_mem h
theorem Tis.nil (ao:Option Addr) (w:World):Tis ao 0 [] w:=⟨rfl,.inl rfl⟩
end CatR
end Go.Proofs.YtmalfhhkjdkadaaGreatDoor
namespace Go.Proofs.YtmalfhhkjdkadaaGreatDoor
open Go.RowKit
set_option linter.unusedVariables false
namespace CatR
def tU (ts:List Ti) (i:Nat):Int:=(ts.getD i Ti.zero).u
def tP (ts:List Ti) (i:Nat):Int:=(ts.getD i Ti.zero).p
def tA (ts:List Ti):Nat→Int
 | 0=>0
 | k+1=>tU ts k
def TOk (ts:List Ti) (k:Nat):Prop:=∀i,i<k→tA ts i<tU ts i∧0≤tP ts i∧tP ts i≤1000000
def TRight (ts:List Ti):Prop:=1≤ts.length∧ts.length≤5∧TOk ts ts.length∧tA ts ts.length=1000000000000
theorem TOk.zero (ts:List Ti):TOk ts 0:=fun i h=>absurd h (by omega)
theorem TOk.more {ts:List Ti} {k:Nat} (h:TOk ts k) (h1:tA ts k<tU ts k) (h2:0≤tP ts k) (h3:tP ts k≤1000000):TOk ts (k+1):=by
 intro i hi
 by_cases e:i=k
 ·subst e;exact ⟨h1,h2,h3⟩
 ·exact h i (by omega)
theorem TOk.rise {ts:List Ti} {n:Nat} (h:TOk ts n):∀i,i≤n→0≤tA ts i∧∀j,j≤i→tA ts j≤tA ts i
 | 0,_=>⟨by simp [tA],fun j hj=>by
  obtain rfl:j=0:=by omega
  exact Int.le_refl _⟩
 | i+1,hi=>by
  obtain ⟨a,b⟩:=TOk.rise h i (by omega)
  have c:=(h i (by omega)).1
  have d:tA ts (i+1)=tU ts i:=rfl
  refine ⟨by omega,fun j hj=>?_⟩
  by_cases e:j=i+1
  ·subst e;exact Int.le_refl _
  ·have:=b j (by omega)
   omega
theorem TRight.upto {ts:List Ti} (h:TRight ts) (k:Nat) (hk:k<ts.length):1≤tU ts k∧tU ts k≤1000000000000:=by
 obtain ⟨_,_,h3,h4⟩:=h
 have a:=(h3.rise ts.length (Nat.le_refl _)).2 (k+1) (by omega)
 have b:=(h3.rise k (by omega)).1
 have c:=(h3 k hk).1
 have d:tA ts (k+1)=tU ts k:=rfl
 omega
def MRight (m:Me):Prop:=NameR.nameB m.n=true∧(1≤m.g∧m.g≤4)∧(0≤m.f∧m.f≤1000000000)∧(0≤m.l∧m.l≤1000000000000)∧TRight m.ts
def TOkDec (ts:List Ti) (k:Nat):Decidable (TOk ts k):=inferInstanceAs (Decidable (∀i,i<k→tA ts i<tU ts i∧0≤tP ts i∧tP ts i≤1000000))
def TRightDec (ts:List Ti):Decidable (TRight ts) :=
 haveI:=TOkDec ts ts.length
 inferInstanceAs (Decidable (1≤ts.length∧ts.length≤5∧TOk ts ts.length∧tA ts ts.length=1000000000000))
def MRightDec (m:Me):Decidable (MRight m) :=
 haveI:=TRightDec m.ts
 inferInstanceAs (Decidable (NameR.nameB m.n=true∧(1≤m.g∧m.g≤4)∧(0≤m.f∧m.f≤1000000000)∧(0≤m.l∧m.l≤1000000000000)∧TRight m.ts))
def tB (ts:List Ti):Bool:=@decide (TRight ts) (TRightDec ts)
def mB (m:Me):Bool:=@decide (MRight m) (MRightDec m)
theorem tB_no {ts:List Ti} (h:¬TRight ts):tB ts=false:=by unfold tB;exact @decide_eq_false _ (TRightDec ts) h
theorem tB_yes {ts:List Ti} (h:TRight ts):tB ts=true:=by unfold tB;exact @decide_eq_true _ (TRightDec ts) h
theorem tB_false {ts:List Ti} {k:Nat} (hk:k<ts.length) (h:¬(tA ts k<tU ts k∧0≤tP ts k∧tP ts k≤1000000)):tB ts=false:=tB_no (fun hr=>h (hr.2.2.1 k hk))
theorem tB_over {ts:List Ti} {k:Nat} (hk:k<ts.length) (h:¬(1≤tU ts k∧tU ts k≤1000000000000)):tB ts=false:=tB_no (fun hr=>h (hr.upto k hk))
theorem tB_end {ts:List Ti} (h1:1≤ts.length) (h5:ts.length≤5) (h:TOk ts ts.length):tB ts=decide (tA ts ts.length=1000000000000):=by
 by_cases e:tA ts ts.length=1000000000000
 ·rw [decide_eq_true e];exact tB_yes ⟨h1,h5,h,e⟩
 ·rw [decide_eq_false e];exact tB_no (fun hr=>e hr.2.2.2)
theorem mB_eq (m:Me):mB m=(NameR.nameB m.n&&decide (1≤m.g∧m.g≤4)&&decide (0≤m.f∧m.f≤1000000000)&&decide (0≤m.l∧m.l≤1000000000000)&&tB m.ts):=by
 unfold mB tB
 rw [Bool.eq_iff_iff]
 simp only [decide_eq_true_eq,Bool.and_eq_true]
 unfold MRight
 constructor
 ·rintro ⟨a,b,c,d,e⟩;exact ⟨⟨⟨⟨a,b⟩,c⟩,d⟩,e⟩
 ·rintro ⟨⟨⟨⟨a,b⟩,c⟩,d⟩,e⟩;exact ⟨a,b,c,d,e⟩
end CatR
end Go.Proofs.YtmalfhhkjdkadaaGreatDoor
namespace Go.Proofs.YtmalfhhkjdkadaaGreatDoor
open Go.ChangeShapes Go.WideShapes Go.ChangeAt Go.RowKit
set_option linter.unusedVariables false
namespace CatR
theorem hid_intro {p:Prop} (h:p):Hid p:=h
theorem within64 (n low high:Int) (w:World) :
 Calls Tryz.prog 118 #[.int .i64 n,.int .i64 low,.int .i64 high] w fun e w'=>e=.returned (.bool (decide (low≤n∧n≤high)))∧w'=w:=by
 rcases (show (¬low≤n)∨(low≤n∧¬n≤high)∨(low≤n∧n≤high) by omega) with h|⟨h1,h2⟩|⟨h1,h2⟩
 all_goals
  go_enter Tryz.func118,Tryz.ntmps118
  go_wp2
  go_ret
  exact ⟨ret_bool (by first|(simp [*];done)|(simp;omega)),rfl⟩
theorem withinI (n low high:Int) (w:World) :
 Calls Tryz.prog 156 #[.int .i64 n,.int .i64 low,.int .i64 high] w fun e w'=>e=.returned (.bool (decide (low≤n∧n≤high)))∧w'=w:=by
 rcases (show (¬low≤n)∨(low≤n∧¬n≤high)∨(low≤n∧n≤high) by omega) with h|⟨h1,h2⟩|⟨h1,h2⟩
 all_goals
  go_enter Tryz.func156,Tryz.ntmps156
  go_wp2
  go_ret
  exact ⟨ret_bool (by first|(simp [*];done)|(simp;omega)),rfl⟩
theorem isS (n low high:Int) (w:World) :
 Calls Tryz.prog 95 #[.int .i64 n,.int .i64 low,.int .i64 high] w fun e w'=>e=.returned (.bool (decide (low≤n∧n≤high)))∧w'=w:=by
 rcases (show (¬low≤n)∨(low≤n∧¬n≤high)∨(low≤n∧n≤high) by omega) with h|⟨h1,h2⟩|⟨h1,h2⟩
 all_goals
  go_enter Tryz.func95,Tryz.ntmps95
  go_wp2
  go_ret
  exact ⟨ret_bool (by first|(simp [*];done)|(simp;omega)),rfl⟩
set_option maxRecDepth 100000 in
set_option maxHeartbeats 4000000 in
theorem impl_tiers (ao:Option Addr) (len cap:Nat) (ts:List Ti) (w:World) (hlen:len≤1048576) (hI:Tis ao len ts w) :
 Calls Tryz.prog 188 #[.slice ao len cap] w fun e w'=>e=.returned (.bool (tB ts))∧Below w.heap.size w w':=by
 have hz:=hI.1
 have HWI:=hid_intro (fun w=>withinI len 1 5 w)
 by_cases h15:1≤len∧len≤5
 ·rw [decide_eq_true (by omega)] at HWI
  have HI:=hid_intro hI
  have HZ:=hid_intro hz
  have HT0:=hid_intro (fun k (hk:k<ts.length)=>tB_false (ts:=ts) hk)
  have HTE:=hid_intro (fun h=>tB_end (ts:=ts) (by omega) (by omega) h)
  generalize tB ts=R at *
  clear hI hz
  go_enter Tryz.func188,Tryz.ntmps188
  go_wp2_with (go_at_call 156;refine (HWI.out _).mono ?_;rintro e w0 ⟨rfl,rfl⟩)
  go_loopw [3,12] (fun x z wr=>∃k:Nat,k≤len∧x=.int .i64 (tA ts k)∧z=.int .i64 k∧Hid (TOk ts k)∧Hid (Below w0.heap.size w0 wr)) (fun x z _=>len-(intOf z).toNat)
  case atStart=>exact ⟨0,by omega,rfl,rfl,hid_intro (TOk.zero ts),hid_intro (Below.refl _ _)⟩
  case round =>
   obtain ⟨k,hk,rfl,rfl,HK,HB⟩:=hrel
   by_cases hlt:k<len
   ·have hlt2:(k:Int)<(len:Int):=by omega
    obtain ⟨b,off,rfl,hbl,d0,d1⟩:=tis_at (HI.out.below HB.out) k hlt
    have c0:wr.cell? ⟨b,off+k*2,none⟩=some (.int .i64 (tU ts k)):=d0
    have c1:wr.cell? ⟨b,off+k*2+1,none⟩=some (.int .i64 (tP ts k)):=d1
    clear d0 d1
    have HT:=hid_intro (HT0.out k (by have:=HZ.out;omega))
    have HM:=hid_intro (fun h1 h2 h3=>HK.out.more (k:=k) h1 h2 h3)
    have HU:Hid (tA ts (k+1)=tU ts k):=rfl
    have HW2:=hid_intro (fun w=>within64 (tP ts k) 0 1000000 w)
    generalize tA ts k=A at *
    generalize tU ts k=U at *
    generalize tP ts k=P at *
    have HAl:=hid_intro (fun o=>HB.out.alloc HB.out.size o)
    rcases (show (U≤A)∨(¬U≤A∧¬(0≤P∧P≤1000000))∨(¬U≤A∧(0≤P∧P≤1000000)) by omega) with q|⟨q,q2⟩|⟨q,q2⟩
    ·have HR:Hid (R=false):=hid_intro (HT.out (by omega))
     go_wp2_with fail
     go_ret
     exact ⟨ret_bool HR.out.symm,HAl.out _⟩
    ·have HR:Hid (R=false):=hid_intro (HT.out (fun h=>q2 h.2))
     rw [decide_eq_false q2] at HW2
     go_wp2_with (go_at_call 118;refine (HW2.out _).mono ?_;rintro e w' ⟨rfl,rfl⟩)
     go_ret
     exact ⟨ret_bool HR.out.symm,HAl.out _⟩
    ·have HM2:=hid_intro (HM.out (by omega) q2.1 q2.2)
     rw [decide_eq_true q2] at HW2
     go_wp2_with (go_at_call 118;refine (HW2.out _).mono ?_;rintro e w' ⟨rfl,rfl⟩)
     go_roundw
     case rel=>exact ⟨k+1,by omega,by rw [HU.out],by go_num,HM2,hid_intro (HAl.out _)⟩
     case measure=>simp [intOf];omega
   ·obtain rfl:k=len:=by omega
    have HR:Hid (R=decide (tA ts k=1000000000000)):=hid_intro (by have h:=HTE.out;rw [HZ.out] at h;exact h HK.out)
    generalize tA ts k=A at *
    by_cases q:A=1000000000000
    ·rw [decide_eq_true q] at HR
     go_wp2_with fail
     go_ret
     exact ⟨ret_bool (by rw [HR.out];try simp [q]),HB.out⟩
    ·rw [decide_eq_false q] at HR
     go_wp2_with fail
     go_ret
     exact ⟨ret_bool (by rw [HR.out];try simp [q]),HB.out⟩
 ·rw [decide_eq_false (by omega)] at HWI
  have HR:Hid (tB ts=false):=hid_intro (tB_no (fun h=>by have:=h.1;have:=h.2.1;omega))
  clear hI hz
  go_enter Tryz.func188,Tryz.ntmps188
  go_wp2_with (go_at_call 156;refine (HWI.out _).mono ?_;rintro e w0 ⟨rfl,rfl⟩)
  go_ret
  exact ⟨ret_bool HR.out.symm,Below.refl _ _⟩
end CatR
namespace CatR
theorem bdrewN {B:Nat} {a w:World} (h:Below B a w) (n:Nat):Below B a (w.drewN n):=⟨h.os,h.tape,h.output,h.size,h.block⟩
set_option maxRecDepth 100000 in
set_option maxHeartbeats 4000000 in
theorem spec_tiers (ao:Option Addr) (len cap:Nat) (ts:List Ti) (w:World) (hlen:len≤1048576) (hI:Tis ao len ts w) :
 Calls Tryz.prog 140 #[.slice ao len cap] w fun e w'=>e=.returned (.bool (tB ts))∧Below w.heap.size w w':=by
 have hz:=hI.1
 by_cases h15:1≤len∧len≤5
 ·obtain ⟨h1,h5⟩:=h15
  have g1:¬(len:Int)<1:=by omega
  have g5:¬(5:Int)<(len:Int):=by omega
  have HI:=hid_intro hI
  have HZ:=hid_intro hz
  have HT0:=hid_intro (fun k (hk:k<ts.length)=>tB_false (ts:=ts) hk)
  have HT1:=hid_intro (fun k (hk:k<ts.length)=>tB_over (ts:=ts) hk)
  have HTE:=hid_intro (fun h=>tB_end (ts:=ts) (by omega) (by omega) h)
  generalize tB ts=R at *
  clear hI hz
  go_enter Tryz.func140,Tryz.ntmps140
  go_wp2_with fail
  go_loopw [4] (fun z wr=>∃k:Nat,k≤len∧z=.int .i64 k∧Hid (TOk ts k)∧Hid (Below w.heap.size w wr)) (fun z _=>len-(intOf z).toNat)
  case atStart=>exact ⟨0,by omega,rfl,hid_intro (TOk.zero ts),hid_intro (Below.refl _ _)⟩
  case round =>
   obtain ⟨k,hk,rfl,HK,HB⟩:=hrel
   by_cases hlt:k<len
   ·have hlt2:(k:Int)<(len:Int):=by omega
    obtain ⟨b,off,rfl,hbl,d0,d1⟩:=tis_at (HI.out.below HB.out) k hlt
    have c0:wr.cell? ⟨b,off+k*2,none⟩=some (.int .i64 (tU ts k)):=d0
    have c1:wr.cell? ⟨b,off+k*2+1,none⟩=some (.int .i64 (tP ts k)):=d1
    clear d0 d1
    have HT:=hid_intro (HT0.out k (by have:=HZ.out;omega))
    have HO:=hid_intro (HT1.out k (by have:=HZ.out;omega))
    have HM:=hid_intro (fun h1 h2 h3=>HK.out.more (k:=k) h1 h2 h3)
    have HA1:=hid_intro (HK.out.rise k (Nat.le_refl _)).1
    rcases (show k=0∨∃j,k=j+1 from by rcases k with _|j;exact .inl rfl;exact .inr ⟨j,rfl⟩) with rfl|⟨j,hkj⟩
    ·have HA:Hid (tA ts 0=0):=rfl
     simp only [Nat.zero_mul,Nat.add_zero] at c0 c1
     have HW1:=hid_intro (fun w=>isS (tU ts 0) 1 1000000000000 w)
     have HW2:=hid_intro (fun w=>isS (tP ts 0) 0 1000000 w)
     generalize tA ts 0=A at *
     generalize tU ts 0=U at *
     generalize tP ts 0=P at *
     rcases (show (¬(1≤U∧U≤1000000000000))∨((1≤U∧U≤1000000000000)∧¬(0≤P∧P≤1000000))∨((1≤U∧U≤1000000000000)∧(0≤P∧P≤1000000)) by omega) with q|⟨q,q2⟩|⟨q,q2⟩
     ·have HR:Hid (R=false):=hid_intro (HO.out q)
      rw [decide_eq_false q] at HW1
      go_wp2_with fail
      go_quiet ((first|(go_at_call_of 95 (Value.int .i64 U);exact Calls.quiet_of_same (HW1.out _))|(go_at_call_of 95 (Value.int .i64 P);exact Calls.quiet_of_same (HW2.out _))))
      go_wp2_with fail
      go_ret
      exact ⟨ret_bool HR.out.symm,bdrewN HB.out _⟩
     ·have HR:Hid (R=false):=hid_intro (HT.out (fun h=>q2 h.2))
      rw [decide_eq_false q2] at HW2
      rw [decide_eq_true q] at HW1
      go_wp2_with fail
      go_quiet ((first|(go_at_call_of 95 (Value.int .i64 U);exact Calls.quiet_of_same (HW1.out _))|(go_at_call_of 95 (Value.int .i64 P);exact Calls.quiet_of_same (HW2.out _))))
      go_wp2_with fail
      go_ret
      exact ⟨ret_bool HR.out.symm,bdrewN HB.out _⟩
     ·have HM2:=hid_intro (HM.out (by have:=HA.out;omega) q2.1 q2.2)
      rw [decide_eq_true q2] at HW2
      rw [decide_eq_true q] at HW1
      go_wp2_with fail
      go_quiet ((first|(go_at_call_of 95 (Value.int .i64 U);exact Calls.quiet_of_same (HW1.out _))|(go_at_call_of 95 (Value.int .i64 P);exact Calls.quiet_of_same (HW2.out _))))
      go_wp2_with fail
      go_roundw
      case rel=>exact ⟨0+1,by omega,by go_num,HM2,hid_intro (bdrewN HB.out _)⟩
      case measure=>simp [intOf];omega
    ·obtain ⟨b',off',hbo,hbl',d0,d1⟩:=tis_at (HI.out.below HB.out) j (by omega)
     obtain ⟨rfl,rfl⟩:b=b'∧off=off':=by simpa using hbo
     have c2:wr.cell? ⟨b,off+j*2,none⟩=some (.int .i64 (tU ts j)):=d0
     clear d0 d1 hbl' hbo
     have HA:Hid (tA ts k=tU ts j):=hid_intro (by rw [hkj];rfl)
     have HW1:=hid_intro (fun w=>isS (tU ts k) 1 1000000000000 w)
     have HW2:=hid_intro (fun w=>isS (tP ts k) 0 1000000 w)
     generalize tA ts k=A at *
     generalize tU ts k=U at *
     generalize tU ts j=V at *
     generalize tP ts k=P at *
     have hj1:IntKind.i64.wrap ((k:Int)-1)=(j:Int):=by rw [IntKind.wrap_i64];omega
     have hj2:0<k:=by omega
     have hj3:(j:Int)<(len:Int):=by omega
     clear hkj
     rcases (show (¬(1≤U∧U≤1000000000000))∨((1≤U∧U≤1000000000000)∧U≤V)∨((1≤U∧U≤1000000000000)∧¬U≤V∧¬(0≤P∧P≤1000000))∨((1≤U∧U≤1000000000000)∧¬U≤V∧(0≤P∧P≤1000000)) by omega) with q|⟨q,q1⟩|⟨q,q1,q2⟩|⟨q,q1,q2⟩
     ·have HR:Hid (R=false):=hid_intro (HO.out q)
      rw [decide_eq_false q] at HW1
      go_wp2_with fail
      go_quiet ((first|(go_at_call_of 95 (Value.int .i64 U);exact Calls.quiet_of_same (HW1.out _))|(go_at_call_of 95 (Value.int .i64 P);exact Calls.quiet_of_same (HW2.out _))))
      go_wp2_with fail
      go_ret
      exact ⟨ret_bool HR.out.symm,bdrewN HB.out _⟩
     ·have HR:Hid (R=false):=hid_intro (HT.out (fun h=>by have:=h.1;have:=HA.out;omega))
      rw [decide_eq_true q] at HW1
      go_wp2_with fail
      go_quiet ((first|(go_at_call_of 95 (Value.int .i64 U);exact Calls.quiet_of_same (HW1.out _))|(go_at_call_of 95 (Value.int .i64 P);exact Calls.quiet_of_same (HW2.out _))))
      go_wp2_with fail
      go_ret
      exact ⟨ret_bool HR.out.symm,bdrewN HB.out _⟩
     ·have HR:Hid (R=false):=hid_intro (HT.out (fun h=>q2 h.2))
      rw [decide_eq_false q2] at HW2
      rw [decide_eq_true q] at HW1
      go_wp2_with fail
      go_quiet ((first|(go_at_call_of 95 (Value.int .i64 U);exact Calls.quiet_of_same (HW1.out _))|(go_at_call_of 95 (Value.int .i64 P);exact Calls.quiet_of_same (HW2.out _))))
      go_wp2_with fail
      go_ret
      exact ⟨ret_bool HR.out.symm,bdrewN HB.out _⟩
     ·have HM2:=hid_intro (HM.out (by have:=HA.out;omega) q2.1 q2.2)
      rw [decide_eq_true q2] at HW2
      rw [decide_eq_true q] at HW1
      go_wp2_with fail
      go_quiet ((first|(go_at_call_of 95 (Value.int .i64 U);exact Calls.quiet_of_same (HW1.out _))|(go_at_call_of 95 (Value.int .i64 P);exact Calls.quiet_of_same (HW2.out _))))
      go_wp2_with fail
      go_roundw
      case rel=>exact ⟨k+1,by omega,by go_num,HM2,hid_intro (bdrewN HB.out _)⟩
      case measure=>simp [intOf];omega
   ·obtain rfl:k=len:=by omega
    have HR:Hid (R=decide (tA ts k=1000000000000)):=hid_intro (by have h:=HTE.out;rw [HZ.out] at h;exact h HK.out)
    obtain ⟨j,hkj⟩:∃j,k=j+1:=⟨k-1,by omega⟩
    obtain ⟨b,off,rfl,hbl,d0,d1⟩:=tis_at (HI.out.below HB.out) j (by omega)
    have c2:wr.cell? ⟨b,off+j*2,none⟩=some (.int .i64 (tA ts k)):=by rw [hkj];exact d0
    clear d0 d1
    have hj1:(k:Int)-1=(j:Int):=by omega
    have hj3:(j:Int)<(k:Int):=by omega
    clear hkj
    generalize tA ts k=A at *
    by_cases q:A=1000000000000
    ·rw [decide_eq_true q] at HR
     go_wp2_with fail
     try go_quiet (fail)
     try go_wp2_with fail
     go_ret
     exact ⟨ret_bool (by rw [HR.out];try simp [q]),by first|exact HB.out|exact bdrewN HB.out _⟩
    ·rw [decide_eq_false q] at HR
     go_wp2_with fail
     try go_quiet (fail)
     try go_wp2_with fail
     go_ret
     exact ⟨ret_bool (by rw [HR.out];try simp [q]),by first|exact HB.out|exact bdrewN HB.out _⟩
 ·have HR:Hid (tB ts=false):=hid_intro (tB_no (fun h=>by have:=h.1;have:=h.2.1;omega))
  have g:(len:Int)<1∨(¬(len:Int)<1∧(5:Int)<(len:Int)):=by omega
  clear hI hz
  rcases g with g|⟨g,g2⟩
  all_goals
   go_enter Tryz.func140,Tryz.ntmps140
   go_wp2_with fail
   go_ret
   exact ⟨ret_bool HR.out.symm,Below.refl _ _⟩
end CatR
namespace CatR
open EvtR (Pt cell_put cell_far)
theorem infoT:(Tryz.prog.info? 171).map (fun i=>(i.zero,i.size,i.bytes))=some (some (.agg #[.int .i64 0,.int .i64 0]),2,16):=by kernel_rfl
theorem pt_row {w:World} {g m:Nat} {cs:List Value} {T:TypeId} (hh:w.heap[g]? = some (.cells cs.toArray T (0,0))) (hl:cs.length=m):Pt g m w where
 lt:=(Array.getElem?_eq_some_iff.1 hh).1
 has:=fun o ho=>⟨cs[o]'(by omega),by simp [World.cell?,hh,hl,ho]⟩
 free:=fun o ho=>by simp [World.frozen?,hh]
theorem row_full {w:World} {base e g n s:Nat} {xs:List Value} (h:w.ownsRow base e s (.slice (some ⟨g,0,none⟩) n n) n xs):Pt g (n*s) w:=by
 rcases h.2 with ⟨h1,_⟩|⟨g',cap,cur,h1,_,hg,_,_,hs,_⟩
 ·simp at h1
 ·simp at h1
  obtain ⟨rfl,rfl⟩:=h1
  exact pt_row (cs:=cur.toList) (by simpa using hg) (by simpa using hs)
theorem toTier_any (u p:Int) (w:World):Calls Tryz.prog 185 #[.agg #[.int .i64 u,.int .i64 p]] w fun e w'=>e=.returned (.agg #[.int .i64 u,.int .i64 p])∧Below w.heap.size w w':=by
 go_enter Tryz.func185,Tryz.ntmps185
 go_wp2_with fail
 refine bodyPost_ret (v:=.agg #[.int .i64 u,.int .i64 p]) (by simp [results,Tryz.results185,go_sem]) rfl ⟨rfl,?_⟩
 repeat' first|exact Below.refl _ _|apply Below.setCell|apply Below.alloc
 all_goals first|omega|(simp;done)|(simp;omega)
theorem tis_set {w wr:World} {g n k:Nat} {ts:List Ti} (hp:Pt g (n*2) wr) (hk:k<n) (ha:∀i,i<k→TiAt wr g (i*2) (ts.getD i Ti.zero)) :
 Pt g (n*2) ((wr.setCell ⟨g,k*2,none⟩ (.int .i64 (ts.getD k Ti.zero).u)).setCell ⟨g,k*2+1,none⟩ (.int .i64 (ts.getD k Ti.zero).p))∧∀i,i<k+1→TiAt ((wr.setCell ⟨g,k*2,none⟩ (.int .i64 (ts.getD k Ti.zero).u)).setCell ⟨g,k*2+1,none⟩ (.int .i64 (ts.getD k Ti.zero).p)) g (i*2) (ts.getD i Ti.zero):=by
 refine ⟨(hp.set _ _).set _ _,fun i hi=>?_⟩
 by_cases e:i=k
 ·subst e
  exact ⟨(cell_far _ _ (by omega) _).trans (cell_put hp _ (by omega) _),cell_put (hp.set _ _) _ (by omega) _⟩
 ·have h:=ha i (by omega)
  exact ⟨((cell_far _ _ (by omega) _).trans (cell_far _ _ (by omega) _)).trans h.1,((cell_far _ _ (by omega) _).trans (cell_far _ _ (by omega) _)).trans h.2⟩
set_option maxRecDepth 100000 in
set_option maxHeartbeats 4000000 in
theorem toTis_any (ao:Option Addr) (len cap:Nat) (ts:List Ti) (w:World) (hlen:len≤1048576) (hI:Tis ao len ts w) :
 Calls Tryz.prog 149 #[.slice ao len cap] w fun e w'=>e=.returned (.slice (some ⟨w.heap.size,0,none⟩) len len)∧Tis (some ⟨w.heap.size,0,none⟩) len ts w'∧Pt w.heap.size (len*2) w'∧Below w.heap.size w w':=by
 obtain ⟨i0,hi,hz0,hz1,hz2⟩:=info_parts infoT
 have HI:=hid_intro hI
 clear hI
 go_enter Tryz.func149,Tryz.ntmps149
 go_wp2_with (at_make;refine wpList_make_full _ rfl _ _ 117 rfl w.heap.size 171 i0 (.agg #[.int .i64 0,.int .i64 0]) 2 Tryz.underlying117 hi hz0 hz1 .i64 .i64 _ _ len rfl rfl rfl rfl ?b2 ?b3 ?b4 ?_)
 case b2=>rw [hz2];omega
 case b3=>unfold maxLen;omega
 case b4=>exact Nat.le_refl _
 intro wm hown hgrow
 have HP:=hid_intro (row_full hown)
 have HB:Hid (Below w.heap.size w wm):=hid_intro ((Below.refl _ _).grown hgrow (Nat.le_refl _) (fun k e=>by cases e))
 clear hown hgrow hi hz0 hz1 hz2
 go_wp2_with fail
 go_loopw [4] (fun z wr=>∃k:Nat,k≤len∧z=.int .i64 k∧Hid (Below w.heap.size w wr)∧Hid (Pt w.heap.size (len*2) wr)∧Hid (∀i,i<k→TiAt wr w.heap.size (i*2) (ts.getD i Ti.zero))) (fun z _=>len-(intOf z).toNat)
 case atStart=>exact ⟨0,by omega,rfl,HB,HP,hid_intro (fun i hi=>absurd hi (by omega))⟩
 case round =>
  obtain ⟨k,hk,rfl,HB,HP,HA⟩:=hrel
  by_cases hlt:k<len
  ·have hlt2:(k:Int)<(len:Int):=by omega
   obtain ⟨b,off,rfl,hbl,c0,c1⟩:=tis_at (HI.out.below HB.out) k hlt
   have HS:=hid_intro (fun W hp ha=>tis_set (w:=w) (wr:=W) (g:=w.heap.size) (n:=len) (k:=k) (ts:=ts) hp hlt ha)
   generalize (ts.getD k Ti.zero)=X at *
   obtain ⟨u,p⟩:=X
   have HC:=hid_intro (fun w=>toTier_any u p w)
   have HS:Hid (∀W,Pt w.heap.size (len*2) W→(∀i,i<k→TiAt W w.heap.size (i*2) (ts.getD i Ti.zero))→Pt w.heap.size (len*2) ((W.setCell ⟨w.heap.size,k*2,none⟩ (.int .i64 u)).setCell ⟨w.heap.size,k*2+1,none⟩ (.int .i64 p))∧∀i,i<k+1→TiAt ((W.setCell ⟨w.heap.size,k*2,none⟩ (.int .i64 u)).setCell ⟨w.heap.size,k*2+1,none⟩ (.int .i64 p)) w.heap.size (i*2) (ts.getD i Ti.zero)):=HS
   go_wp2_with fail
   refine (HC.out _).mono ?_
   rintro e w1 ⟨rfl,hb⟩
   have HP1:=hid_intro (HP.out.below hb)
   have HA1:Hid (∀i,i<k→TiAt w1 w.heap.size (i*2) (ts.getD i Ti.zero)):=hid_intro (fun i hi=>(HA.out i hi).below HP.out.lt hb)
   have HB1:=hid_intro (HB.out.trans (hb.mono HB.out.size))
   have HS1:=hid_intro (HS.out _ HP1.out HA1.out)
   obtain ⟨v0,d0⟩:=HP1.out.has (k*2) (by omega)
   obtain ⟨v1,d1⟩:=HP1.out.has (k*2+1) (by omega)
   have z0:=HP1.out.free (k*2) (by omega)
   have z1:=HP1.out.free (k*2+1) (by omega)
   clear hb c0 c1
   go_wp2_with fail
   go_roundw
   case rel=>exact ⟨k+1,by omega,by go_num,hid_intro ((HB1.out.setCell (Nat.le_refl _) _).setCell (Nat.le_refl _) _),hid_intro HS1.out.1,hid_intro HS1.out.2⟩
   case measure=>simp [intOf];omega
  ·have hlt2:¬(k:Int)<(len:Int):=by omega
   obtain rfl:k=len:=by omega
   go_wp2_with fail
   go_ret
   exact ⟨rfl,⟨HI.out.1,.inr ⟨w.heap.size,0,rfl,HP.out.lt,fun j hj=>by rw [Nat.zero_add];exact HA.out j hj⟩⟩,HP.out,HB.out⟩
end CatR
end Go.Proofs.YtmalfhhkjdkadaaGreatDoor
