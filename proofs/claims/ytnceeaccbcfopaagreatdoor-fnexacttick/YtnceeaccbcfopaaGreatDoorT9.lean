/-
  What right lines are: both sides say the same.
  strings.Clone: the same bytes come back; nothing that was there is written.
  Lines that are put together, and what is left of them behind a credit: both sides say the same.
  A list of lines that came in, read as a row.
  What a list of lines that the law does not pass by is like.
  Documents: what is read of one, the law's own copies, and two held against each other.
  The conditions stand in what each theorem says.
-/
import Derived.Deep.RegionHeld3
import Derived.BigQuiet
import Derived.Deep.QuietTactic
import Derived.Lib.Strings
import Derived.Lib.BufferWrite
import Derived.Lib.UnsafeStr
import Derived.Lib.Hide
import Derived.Laws.MakeOwn
import Derived.OwnWalk
import Derived.Deep.Fields
import Derived.OpenVars
import Derived.Carry
import Derived.ChangeMaps5
import Derived.Lib.SmallJoins
import Derived.DataReads
import Derived.Test.YtnceeaccbcfopaaGreatDoorT8
set_option maxRecDepth 100000
set_option maxHeartbeats 16000000
namespace Go.Proofs.YtnceeaccbcfopaaGreatDoor
open Go.ChangeShapes Go.WideShapes Go.ChangeAt Go.RowKit
set_option linter.unusedVariables false
namespace LinR
open RowG LtR
open NameR (nameB)
def nOk (n:Int):Bool:=decide (-1000000000000000≤n∧n≤1000000000000000)
def lOk (x:N):Bool:=nameB x.i&&(nOk x.n&&decide (x.n≠0))
def ahd (es:List N):Nat→ByteArray
 | 0=>⟨#[]⟩
 | k+1=>(es.getD k N.zero).i
def SOk (es:List N) (k:Nat):Prop:=∀i,i<k→lt (ahd es i) (es.getD i N.zero).i=true∧lOk (es.getD i N.zero)=true
def SRight (es:List N):Prop:=es.length≤6∧SOk es es.length
def SOkDec (es:List N) (k:Nat):Decidable (SOk es k):=inferInstanceAs (Decidable (∀i,i<k→lt (ahd es i) (es.getD i N.zero).i=true∧lOk (es.getD i N.zero)=true))
def SRightDec (es:List N):Decidable (SRight es) :=
 haveI:=SOkDec es es.length
 inferInstanceAs (Decidable (es.length≤6∧SOk es es.length))
def sB (es:List N):Bool:=@decide (SRight es) (SRightDec es)
theorem sB_no {es:List N} (h:¬SRight es):sB es=false:=by unfold sB;exact @decide_eq_false _ (SRightDec es) h
theorem sB_yes {es:List N} (h:SRight es):sB es=true:=by unfold sB;exact @decide_eq_true _ (SRightDec es) h
theorem sB_iff {es:List N}:sB es=true↔SRight es:=by unfold sB;exact @decide_eq_true_iff _ (SRightDec es)
theorem SOk.zero (es:List N):SOk es 0:=fun i h=>absurd h (by omega)
theorem SOk.more {es:List N} {k:Nat} (h:SOk es k) (h1:lt (ahd es k) (es.getD k N.zero).i=true) (h2:lOk (es.getD k N.zero)=true):SOk es (k+1):=by
 intro i hi
 by_cases e:i=k
 ·subst e;exact ⟨h1,h2⟩
 ·exact h i (by omega)
theorem sB_false {es:List N} {k:Nat} (hk:k<es.length) (h:¬(lt (ahd es k) (es.getD k N.zero).i=true∧lOk (es.getD k N.zero)=true)):sB es=false:=sB_no (fun hr=>h (hr.2 k hk))
theorem sB_long {es:List N} (h:6<es.length):sB es=false:=sB_no (fun hr=>by have:=hr.1;omega)
theorem name_pos {s:ByteArray} (h:nameB s=true):1≤s.size:=by
 unfold nameB at h
 simp at h
 exact h.1
theorem three (b1 b2 b3:Bool):(b1=false)∨(b1=true∧b2=false)∨(b1=true∧b2=true∧b3=false)∨(b1=true∧b2=true∧b3=true):=by
 cases b1<;>cases b2<;>cases b3<;>simp
theorem num_cases (n:Int):(¬-1000000000000000≤n∧nOk n=false)∨(-1000000000000000≤n∧¬n≤1000000000000000∧nOk n=false)∨(-1000000000000000≤n∧n≤1000000000000000∧nOk n=true):=by
 unfold nOk
 rcases (show (¬-1000000000000000≤n)∨(-1000000000000000≤n∧¬n≤1000000000000000)∨(-1000000000000000≤n∧n≤1000000000000000) by omega) with h|⟨h,h2⟩|⟨h,h2⟩
 ·exact .inl ⟨h,decide_eq_false (fun q=>h q.1)⟩
 ·exact .inr (.inl ⟨h,h2,decide_eq_false (fun q=>h2 q.2)⟩)
 ·exact .inr (.inr ⟨h,h2,decide_eq_true ⟨h,h2⟩⟩)
theorem inum (n:Int) (w:World):Calls Tryz.prog 200 #[.int .i64 n] w fun e w'=>e=.returned (.bool (nOk n))∧w'=w:=by
 rcases num_cases n with ⟨h1,h2⟩|⟨h1,h3,h2⟩|⟨h1,h3,h2⟩
 all_goals
  rw [h2]
  clear h2
  go_enter Tryz.func200,Tryz.ntmps200
  go_wp2_with (go_at_call 30;go_in)
  go_ret
  exact ⟨rfl,rfl⟩
theorem snum (n:Int) (w:World):Calls Tryz.prog 153 #[.int .i64 n] w fun e w'=>e=.returned (.bool (nOk n))∧w'=w:=by
 rcases num_cases n with ⟨h1,h2⟩|⟨h1,h3,h2⟩|⟨h1,h3,h2⟩
 all_goals
  rw [h2]
  clear h2
  go_enter Tryz.func153,Tryz.ntmps153
  go_wp2_with (go_at_call 63;go_in)
  go_ret
  exact ⟨rfl,rfl⟩
theorem bdrewN {B:Nat} {a w:World} (h:Below B a w) (n:Nat):Below B a (w.drewN n):=⟨h.os,h.tape,h.output,h.size,h.block⟩
theorem le_ge1 {x a:ByteArray} (h:Op.bytesLess x.toList a.toList=true):Op.bytesLess a.toList x.toList=false:=lt_asymm h
theorem le_cases (x a:ByteArray):(Op.bytesLess x.toList a.toList=true∧lt a x=false)∨(Op.bytesLess x.toList a.toList=false∧x.toList=a.toList∧(x.toList==a.toList)=true∧lt a x=false)∨(Op.bytesLess x.toList a.toList=false∧x.toList≠a.toList∧(x.toList==a.toList)=false∧lt a x=true):=by
 cases h:lt x a
 ·by_cases e:x=a
  ·subst e;exact .inr (.inl ⟨h,rfl,by simp,h⟩)
  ·have ne:x.toList≠a.toList:=fun q=>e (toList_inj q)
   refine .inr (.inr ⟨h,ne,by simpa using ne,?_⟩)
   cases h2:lt a x
   ·exact absurd (lt_total h h2) e
   ·rfl
 ·exact .inl ⟨h,lt_asymm h⟩
theorem nil_cases (n:Int):((n==0)=true∧decide (n≠0)=false)∨((n==0)=false∧decide (n≠0)=true):=by
 by_cases h:n=0
 ·exact .inl ⟨by simpa using h,by simpa using h⟩
 ·exact .inr ⟨by simpa using h,by simpa using h⟩
theorem impl_lines (ao:Option Addr) (cap:Nat) (es:List N) (w:World) (hlen:es.length≤1048576) (hS:∀e∈es,e.i.size≤1048576) (hI:Lis ao es w) :
 Calls Tryz.prog 199 #[.slice ao es.length cap] w fun e w'=>e=.returned (.bool (sB es))∧Below w.heap.size w w':=by
 by_cases h40:6<es.length
 ·have HR:=H_ (sB_long h40)
  obtain ⟨len,hl⟩:∃len,len=es.length:=⟨_,rfl⟩
  rw [←hl] at hlen h40 ⊢
  have h40':(6:Int)<(len:Int):=by omega
  clear hI hS hl
  go_enter Tryz.func199,Tryz.ntmps199
  go_wp2_with fail
  go_ret
  exact ⟨ret_bool HR.out.symm,Below.refl _ _⟩
 ·have HT0:=H_ (fun k (hk:k<es.length)=>sB_false (es:=es) hk)
  have HTE:=H_ (fun h=>sB_yes (es:=es) ⟨by omega,h⟩)
  have HI:=H_ hI
  have HS:=H_ hS
  obtain ⟨len,hl⟩:∃len,len=es.length:=⟨_,rfl⟩
  rw [←hl] at hlen h40 ⊢
  have HL:=H_ hl
  have h40':¬(6:Int)<(len:Int):=by omega
  clear hI hS hl
  generalize sB es=R at *
  go_enter Tryz.func199,Tryz.ntmps199
  go_wp2_with fail
  go_loopw [3,11] (fun x z wr=>∃k:Nat,k≤len∧x=.string (ahd es k)∧z=.int .i64 k∧Hid (SOk es k)∧Hid (Below w.heap.size w wr)) (fun x z _=>len-(intOf z).toNat)
  case atStart=>exact ⟨0,by omega,rfl,rfl,H_ (SOk.zero es),H_ (Below.refl _ _)⟩
  case round =>
   obtain ⟨k,hk,rfl,rfl,HK,HB⟩:=hrel
   by_cases hlt:k<len
   ·have hlt2:(k:Int)<(len:Int):=by omega
    obtain ⟨b,off,rfl,hbl,c0,c1⟩:=(HI.out.below HB.out).at k (by have:=HL.out;omega)
    have hsz:=HS.out _ (getD_mem (z:=N.zero) es k (by have:=HL.out;omega))
    have HM:=H_ (fun h1 h2=>HK.out.more (k:=k) h1 h2)
    have HF:=H_ (HT0.out k (by have:=HL.out;omega))
    have HA:Hid (ahd es (k+1)=(es.getD k N.zero).i):=rfl
    generalize ahd es k=a at *
    generalize es.getD k N.zero=X at *
    obtain ⟨xi,xn⟩:=X
    have HA:Hid (ahd es (k+1)=xi):=HA
    have H1:=H_ (fun w=>NameR.impl_any xi w hsz)
    have H2:=H_ (fun w=>inum xn w)
    have HE:Hid (lOk ⟨xi,xn⟩=(nameB xi&&(nOk xn&&decide (xn≠0)))):=rfl
    dsimp only at HM HF c0 c1
    generalize lOk ⟨xi,xn⟩=r at *
    have HAl:=H_ (fun o=>HB.out.alloc HB.out.size o)
    rcases le_cases xi a with ⟨q1,q2⟩|⟨q1,q3,q4,q2⟩|⟨q1,q3,q4,q2⟩
    ·have HR:Hid (R=false):=H_ (HF.out (fun h=>by rw [q2] at h;exact absurd h.1 (by simp)))
     clear HM HF q2
     go_wp2_with fail
     go_ret
     exact ⟨ret_bool HR.out.symm,HAl.out _⟩
    ·have HR:Hid (R=false):=H_ (HF.out (fun h=>by rw [q2] at h;exact absurd h.1 (by simp)))
     clear HM HF q2
     go_wp2_with fail
     go_ret
     exact ⟨ret_bool HR.out.symm,HAl.out _⟩
    ·generalize nameB xi=b1 at *
     generalize nOk xn=b2 at *
     have hz:=nil_cases xn
     generalize decide (xn≠0)=b3 at *
     cases b1
     ·have HR:Hid (R=false):=H_ (HF.out (fun h=>by rw [HE.out] at h;exact absurd h.2 (by simp)))
      clear HM HF q2 HE hz
      go_wp2_with (go_at_call 166;refine (H1.out _).mono ?_;rintro e w1 ⟨rfl,rfl⟩)
      go_ret
      exact ⟨ret_bool HR.out.symm,HAl.out _⟩
     rcases hz with ⟨hz,rfl⟩|⟨hz,rfl⟩
     ·have HR:Hid (R=false):=H_ (HF.out (fun h=>by rw [HE.out] at h;exact absurd h.2 (by simp)))
      clear HM HF q2 HE
      go_wp2_with (go_at_call 166;refine (H1.out _).mono ?_;rintro e w1 ⟨rfl,rfl⟩)
      go_ret
      exact ⟨ret_bool HR.out.symm,HAl.out _⟩
     cases b2
     ·have HR:Hid (R=false):=H_ (HF.out (fun h=>by rw [HE.out] at h;exact absurd h.2 (by simp)))
      clear HM HF q2 HE
      go_wp2_with (first|(go_at_call 166;refine (H1.out _).mono ?_;rintro e w1 ⟨rfl,rfl⟩)|(go_at_call 200;refine (H2.out _).mono ?_;rintro e w1 ⟨rfl,rfl⟩))
      go_ret
      exact ⟨ret_bool HR.out.symm,HAl.out _⟩
     ·replace HM:=H_ (HM.out q2 (by rw [HE.out];rfl))
      clear HF q2 HE
      go_wp2_with (first|(go_at_call 166;refine (H1.out _).mono ?_;rintro e w1 ⟨rfl,rfl⟩)|(go_at_call 200;refine (H2.out _).mono ?_;rintro e w1 ⟨rfl,rfl⟩))
      go_roundw
      case rel=>exact ⟨k+1,by omega,by rw [HA.out],by go_num,HM,H_ (HAl.out _)⟩
      case measure=>simp [intOf];omega
   ·have hlt2:¬(k:Int)<(len:Int):=by omega
    obtain rfl:k=len:=by omega
    have HR:Hid (R=true):=H_ (HTE.out (by rw [←HL.out];exact HK.out))
    go_wp2_with fail
    go_ret
    exact ⟨ret_bool HR.out.symm,HB.out⟩
theorem spec_lines (ao:Option Addr) (cap:Nat) (es:List N) (w:World) (hlen:es.length≤1048576) (hS:∀e∈es,e.i.size≤1048576) (hI:Lis ao es w) :
 Calls Tryz.prog 152 #[.slice ao es.length cap] w fun e w'=>e=.returned (.bool (sB es))∧Below w.heap.size w w':=by
 have HT0:=H_ (fun k (hk:k<es.length)=>sB_false (es:=es) hk)
 have HTE:Hid (SOk es es.length→sB es=decide (es.length≤6)):=H_ (fun h=>by
  by_cases e:es.length≤6
  ·rw [decide_eq_true e];exact sB_yes ⟨e,h⟩
  ·rw [decide_eq_false e];exact sB_no (fun hr=>e hr.1))
 have HI:=H_ hI
 have HS:=H_ hS
 obtain ⟨len,hl⟩:∃len,len=es.length:=⟨_,rfl⟩
 rw [←hl] at hlen ⊢
 have HL:=H_ hl
 clear hI hS hl
 generalize sB es=R at *
 go_enter Tryz.func152,Tryz.ntmps152
 go_wp2_with fail
 go_loopw [3] (fun z wr=>∃k:Nat,k≤len∧z=.int .i64 k∧Hid (SOk es k)∧Hid (Below w.heap.size w wr)) (fun z _=>len-(intOf z).toNat)
 case atStart=>exact ⟨0,by omega,rfl,H_ (SOk.zero es),H_ (Below.refl _ _)⟩
 case round =>
  obtain ⟨k,hk,rfl,HK,HB⟩:=hrel
  by_cases hlt:k<len
  ·have hlt2:(k:Int)<(len:Int):=by omega
   obtain ⟨b,off,rfl,hbl,c0,c1⟩:=(HI.out.below HB.out).at k (by have:=HL.out;omega)
   have hsz:=HS.out _ (getD_mem (z:=N.zero) es k (by have:=HL.out;omega))
   have HM:=H_ (fun h1 h2=>HK.out.more (k:=k) h1 h2)
   have HF:=H_ (HT0.out k (by have:=HL.out;omega))
   rcases (show k=0∨∃j,k=j+1 from by rcases k with _|j;exact .inl rfl;exact .inr ⟨j,rfl⟩) with rfl|⟨j,hkj⟩
   ·have HA:Hid (ahd es 0=⟨#[]⟩):=rfl
    simp only [Nat.zero_mul,Nat.add_zero] at c0 c1
    generalize ahd es 0=a at *
    generalize es.getD 0 N.zero=X at *
    obtain ⟨xi,xn⟩:=X
    have H1:=H_ (fun w=>NameR.spec_any xi w hsz)
    have H2:=H_ (fun w=>snum xn w)
    have HP:=H_ (name_pos (s:=xi))
    have HE:Hid (lOk ⟨xi,xn⟩=(nameB xi&&(nOk xn&&decide (xn≠0)))):=rfl
    dsimp only at HM HF c0 c1 hsz
    generalize lOk ⟨xi,xn⟩=r at *
    generalize nameB xi=b1 at *
    generalize nOk xn=b2 at *
    have hz:=nil_cases xn
    generalize decide (xn≠0)=b3 at *
    cases b1
    ·clear hz
     have HR:Hid (R=false):=H_ (HF.out (fun h=>by rw [HE.out] at h;exact absurd h.2 (by simp)))
     clear HM HF HP HE
     go_wp2_with fail
     go_quiet ((first|(go_at_call 104;exact Calls.quiet_of_same (H1.out _))|(go_at_call 153;exact Calls.quiet_of_same (H2.out _))))
     go_wp2_with fail
     go_ret
     exact ⟨ret_bool HR.out.symm,bdrewN HB.out _⟩
    cases b2
    ·clear hz
     have HR:Hid (R=false):=H_ (HF.out (fun h=>by rw [HE.out] at h;exact absurd h.2 (by simp)))
     clear HM HF HP HE
     go_wp2_with fail
     go_quiet ((first|(go_at_call 104;exact Calls.quiet_of_same (H1.out _))|(go_at_call 153;exact Calls.quiet_of_same (H2.out _))))
     go_wp2_with fail
     go_ret
     exact ⟨ret_bool HR.out.symm,bdrewN HB.out _⟩
    rcases hz with ⟨hz,rfl⟩|⟨hz,rfl⟩
    ·skip
     have HR:Hid (R=false):=H_ (HF.out (fun h=>by rw [HE.out] at h;exact absurd h.2 (by simp)))
     clear HM HF HP HE
     go_wp2_with fail
     go_quiet ((first|(go_at_call 104;exact Calls.quiet_of_same (H1.out _))|(go_at_call 153;exact Calls.quiet_of_same (H2.out _))))
     go_wp2_with fail
     go_ret
     exact ⟨ret_bool HR.out.symm,bdrewN HB.out _⟩
    ·skip
     have HM2:=H_ (HM.out (by rw [HA.out];exact lt_empty (HP.out rfl)) (by rw [HE.out];rfl))
     clear HM HF HP HE
     go_wp2_with fail
     go_quiet ((first|(go_at_call 104;exact Calls.quiet_of_same (H1.out _))|(go_at_call 153;exact Calls.quiet_of_same (H2.out _))))
     go_wp2_with fail
     go_roundw
     case rel=>exact ⟨0+1,by omega,by go_num,HM2,H_ (bdrewN HB.out _)⟩
     case measure=>simp [intOf];omega
   ·obtain ⟨b',off',hbo,hbl',d0,d1⟩:=(HI.out.below HB.out).at j (by have:=HL.out;omega)
    obtain ⟨rfl,rfl⟩:b=b'∧off=off':=by simpa using hbo
    have HA:Hid (ahd es k=(es.getD j N.zero).i):=H_ (by rw [hkj];rfl)
    generalize es.getD j N.zero=Y at *
    obtain ⟨yi,yn⟩:=Y
    have HA:Hid (ahd es k=yi):=HA
    clear d1 hbl' hbo
    generalize ahd es k=a at *
    generalize es.getD k N.zero=X at *
    obtain ⟨xi,xn⟩:=X
    have H1:=H_ (fun w=>NameR.spec_any xi w hsz)
    have H2:=H_ (fun w=>snum xn w)
    have HE:Hid (lOk ⟨xi,xn⟩=(nameB xi&&(nOk xn&&decide (xn≠0)))):=rfl
    dsimp only at HM HF c0 c1 d0 hsz
    generalize lOk ⟨xi,xn⟩=r at *
    generalize nameB xi=b1 at *
    generalize nOk xn=b2 at *
    have hz:=nil_cases xn
    generalize decide (xn≠0)=b3 at *
    have hj1:IntKind.i64.wrap ((k:Int)-1)=(j:Int):=by rw [IntKind.wrap_i64];omega
    have hj2:0<k:=by omega
    have hj3:(j:Int)<(len:Int):=by omega
    clear hkj
    cases b1
    ·clear hz
     have HR:Hid (R=false):=H_ (HF.out (fun h=>by rw [HE.out] at h;exact absurd h.2 (by simp)))
     clear HM HF HE
     go_wp2_with fail
     go_quiet ((first|(go_at_call 104;exact Calls.quiet_of_same (H1.out _))|(go_at_call 153;exact Calls.quiet_of_same (H2.out _))))
     go_wp2_with fail
     go_ret
     exact ⟨ret_bool HR.out.symm,bdrewN HB.out _⟩
    rcases le_cases xi yi with ⟨q1,q2⟩|⟨q1,q3,q4,q2⟩|⟨q1,q3,q4,q2⟩
    ·clear hz
     have HR:Hid (R=false):=H_ (HF.out (fun h=>by rw [HA.out,q2] at h;exact absurd h.1 (by simp)))
     have q5:=le_ge1 q1
     clear HM HF HE q2
     go_wp2_with fail
     go_quiet ((first|(go_at_call 104;exact Calls.quiet_of_same (H1.out _))|(go_at_call 153;exact Calls.quiet_of_same (H2.out _))))
     go_wp2_with fail
     go_ret
     exact ⟨ret_bool HR.out.symm,bdrewN HB.out _⟩
    ·clear hz
     have HR:Hid (R=false):=H_ (HF.out (fun h=>by rw [HA.out,q2] at h;exact absurd h.1 (by simp)))
     obtain rfl:=toList_inj q3
     have q5:Op.bytesLess xi.toList xi.toList=false:=q1
     clear HM HF HE q2 q3 q4
     go_wp2_with fail
     go_quiet ((first|(go_at_call 104;exact Calls.quiet_of_same (H1.out _))|(go_at_call 153;exact Calls.quiet_of_same (H2.out _))))
     go_wp2_with fail
     go_ret
     exact ⟨ret_bool HR.out.symm,bdrewN HB.out _⟩
    have q5:Op.bytesLess yi.toList xi.toList=true:=q2
    cases b2
    ·clear hz
     have HR:Hid (R=false):=H_ (HF.out (fun h=>by rw [HE.out] at h;exact absurd h.2 (by simp)))
     clear HM HF HE q2
     go_wp2_with fail
     go_quiet ((first|(go_at_call 104;exact Calls.quiet_of_same (H1.out _))|(go_at_call 153;exact Calls.quiet_of_same (H2.out _))))
     go_wp2_with fail
     go_ret
     exact ⟨ret_bool HR.out.symm,bdrewN HB.out _⟩
    rcases hz with ⟨hz,rfl⟩|⟨hz,rfl⟩
    ·skip
     have HR:Hid (R=false):=H_ (HF.out (fun h=>by rw [HE.out] at h;exact absurd h.2 (by simp)))
     clear HM HF HE q2
     go_wp2_with fail
     go_quiet ((first|(go_at_call 104;exact Calls.quiet_of_same (H1.out _))|(go_at_call 153;exact Calls.quiet_of_same (H2.out _))))
     go_wp2_with fail
     go_ret
     exact ⟨ret_bool HR.out.symm,bdrewN HB.out _⟩
    ·skip
     have HM2:=H_ (HM.out (by rw [HA.out];exact q2) (by rw [HE.out];rfl))
     clear HM HF HE q2
     go_wp2_with fail
     go_quiet ((first|(go_at_call 104;exact Calls.quiet_of_same (H1.out _))|(go_at_call 153;exact Calls.quiet_of_same (H2.out _))))
     go_wp2_with fail
     go_roundw
     case rel=>exact ⟨k+1,by omega,by go_num,HM2,H_ (bdrewN HB.out _)⟩
     case measure=>simp [intOf];omega
  ·have hlt2:¬(k:Int)<(len:Int):=by omega
   obtain rfl:k=len:=by omega
   have HR:Hid (R=decide (k≤6)):=H_ (by have e:=HL.out;have h:=HTE.out;rw [←e] at h;exact h HK.out)
   by_cases h40:k≤6
   ·have h40':(k:Int)≤6:=by omega
    rw [decide_eq_true h40] at HR
    go_wp2_with fail
    go_ret
    exact ⟨ret_bool HR.out.symm,HB.out⟩
   ·have h40':¬(k:Int)≤6:=by omega
    rw [decide_eq_false h40] at HR
    go_wp2_with fail
    go_ret
    exact ⟨ret_bool HR.out.symm,HB.out⟩
end LinR
namespace CloneR
theorem H_ {p:Prop} (h:p):Hid p:=h
theorem info8:(Tryz.prog.info? 5).map (fun i=>(i.zero,i.size,i.bytes))=some (some (.int .u8 0),1,1):=by kernel_rfl
theorem lite_any (s:ByteArray) (w:World) (hlim:s.size≤281474976710656) :
 Calls Tryz.prog 182 #[.string s] w fun e w'=>e=.returned (.string s)∧Below w.heap.size w w':=by
 by_cases h0:s.size=0
 ·obtain rfl:s=⟨#[]⟩:=ByteArray.ext (Array.eq_empty_of_size_eq_zero h0)
  go_enter Tryz.func182,Tryz.ntmps182
  go_wp2
  go_ret
  exact ⟨rfl,Below.refl _ _⟩
 ·obtain ⟨i0,hi,hz0,hz1,hz2⟩:=info_parts info8
  have hone:(Tryz.prog.info? 5).map (·.size)=some 1:=by rw [hi];simp [hz1]
  have hcells:Tryz.prog.cellsOf 5=1:=by simp [Program.cellsOf,hi,hz1]
  obtain ⟨M,hM⟩:∃M,M=madeCells (Value.int .u8 0).cells (((s.size:Nat):Int).toNat*i0.size):=⟨_,rfl⟩
  have hMs:M.size=s.size:=by rw [hM,size_madeCells,hz1];simp
  have hmake:∀W:World,(Instr.makeSlice 205 (.int .i64 (s.size:Int)) (.int .i64 (s.size:Int))).run Tryz.prog W=.ok (.slice (some ⟨W.heap.size,0,none⟩) s.size s.size) (W.alloc (.cells M 5)):=fun W=>by
   have h:=run_make (P:=Tryz.prog) W 205 5 i0 (.int .u8 0) Tryz.underlying205 hi hz0 .i64 .i64 (s.size:Int) (s.size:Int) (by omega) (by omega) (by rw [hz2];omega) (by omega)
   rw [←hM] at h
   simpa using h
  clear hM
  have hcopy:=Lib.run_copy_row_string (P:=Tryz.prog) (w.alloc (.cells M 5)) 205 9 3 5 w.heap.size 0 s.size s.size s M 5 Tryz.underlying205 hone (heap_alloc_new w _) (Nat.le_refl _) (by omega)
  obtain ⟨Y,hY⟩:∃Y,Y=(M.toList.take 0++Lib.byteCells s.data.toList++M.toList.drop (0+s.size)).toArray:=⟨_,rfl⟩
  rw [←hY] at hcopy
  have hYl:Y.toList=Lib.byteCells s.data.toList:=by
   rw [hY,List.toList_toArray,List.take_zero,List.nil_append,List.drop_of_length_le (by rw [Array.length_toList];omega),List.append_nil]
  have hYs:Y.size=s.size:=by rw [←Array.length_toList,hYl,Lib.byteCells_length,←Lib.size_eq]
  have hg:((w.alloc (.cells M 5)).setRow w.heap.size Y).heap[w.heap.size]? = some (.cells Y 5 (0,0)):=setRow_heap _ _ M _ 5 (0,0) (heap_alloc_new w _)
  have hne:s.data.toList≠[]:=fun e=>h0 (by rw [Lib.size_eq,e];rfl)
  have hstr:=Lib.run_unsafeString_row (P:=Tryz.prog) ((w.alloc (.cells M 5)).setRow w.heap.size Y) 267 3 9 5 Tryz.underlying267 hcells w.heap.size Y.size (by unfold World.shape?;rw [hg]) s.data.toList hne (by rw [←Lib.size_eq];omega) (by rw [←Lib.size_eq];omega)
   (fun j x hx=>Lib.cells_of_row hg Y.size j _ (by rw [List.take_of_length_le (by rw [Array.length_toList];exact Nat.le_refl _),hYl];simp [Lib.byteCells,hx]))
  rw [←Lib.size_eq] at hstr
  clear hY
  go_enter Tryz.func182,Tryz.ntmps182
  go_wp2
  go_ret
  have b1:Below w.heap.size w (w.alloc (.cells M 5)):=(Below.refl _ w).alloc (Nat.le_refl _) _
  have b2:Below w.heap.size (w.alloc (.cells M 5)) ((w.alloc (.cells M 5)).setRow w.heap.size Y):=⟨rfl,rfl,rfl,by simp,fun k hk=>setRow_other _ _ _ _ (by omega)⟩
  exact ⟨rfl,Lib.below_freeze (b1.trans b2) (p:=⟨w.heap.size,0,none⟩) (Nat.le_refl _) _⟩
theorem clone_any (s:ByteArray) (w:World) (hlim:s.size≤281474976710656) :
 Calls Tryz.prog 133 #[.string s] w fun e w'=>e=.returned (.string s)∧Below w.heap.size w w':=by
 have H:=H_ (fun w=>lite_any s w hlim)
 go_enter Tryz.func133,Tryz.ntmps133
 go_wp2_with (go_at_call 182;refine (H.out _).mono ?_;rintro e w1 ⟨rfl,hb⟩)
 go_ret
 exact ⟨rfl,hb⟩
end CloneR
namespace LinR
open RowG LtR
theorem step_append_own {P:Program} {w:World} {ops:Array Oper} {o:Oper} {a:Act} {K:Act→World→Prop} {Q:Exit→Act→World→Prop} {E:Prop} (hgd:o.guard=none) (s x:Operand) (t:TypeId)
 (ho:o.op=.call {callee:=.builtin .append,args:=#[s,x],argTypes:=#[t,t]})
 (base:Nat) (e:TypeId) (i:TypeInfo) (z:Value) (size bytes:Nat) (ht:P.underlying t=some (.slice e)) (hi:P.info? e=some i) (hz:i.zero=some z)
 (hsize:i.size=size) (hby:i.bytes=bytes) (hzs:z.cells.size=size) (hsz:0<size)
 (v:Value) (n:Nat) (xs:List Value) (hs:a.eval s=v) (hown:w.ownsRow base e size v n xs)
 (ad:Addr) (m c:Nat) (news:List Value) (hx:a.eval x=.slice (some ad) m c) (hl:news.length=m*size) (hnews:∀j u,news[j]? = some u→w.cell? (ad.add j)=some u) (h1:∀u∈news,u.oneCell'=true)
 (h63:n+m≤maxLen) (hbytes:(n+m)*bytes≤140737488355328) (hbase:base≤w.heap.size)
 (h:∀v' w',w'.ownsRow base e size v' (n+m) (xs++news)→w.grownBy w' v.ownBlock→(v'=.slice none 0 0↔v=.slice none 0 0∧m=0)→K (a.put o.dst v') w'):if Region.wanted o (yielded ops a.tmps)=true then Oper.wp P o a w K Q else E:=by
 have hw:Region.wanted o (yielded ops a.tmps)=true:=by simp [Region.wanted,hgd]
 rw [if_pos hw]
 exact wp_append_own w s x t ho base e i z size bytes ht hi hz hsize hby hzs hsz v n xs hs hown ad m c news hx hl hnews h1 h63 hbytes hbase h
theorem own_drew {w:World} {base e size n:Nat} {v:Value} {xs:List Value} (h:w.ownsRow base e size v n xs):w.drew.ownsRow base e size v n xs:=h
theorem own_low {w:World} {base base' e size n:Nat} {v:Value} {xs:List Value} (h:w.ownsRow base e size v n xs) (hb:base'≤base):w.ownsRow base' e size v n xs:=by
 refine ⟨h.1,?_⟩
 rcases h.2 with hn|⟨g,cap,cur,rfl,h1,rest⟩
 ·exact .inl hn
 ·exact .inr ⟨g,cap,cur,rfl,by omega,rest⟩
theorem own_empty (w:World) (base e size:Nat) (hb:base≤w.heap.size):(w.alloc (.cells #[] e)).ownsRow base e size (.slice (some ⟨w.heap.size,0,none⟩) 0 0) 0 [] :=
 World.ownsRow_made w #[] 0 hb (by unfold maxLen;omega) (by simp)
def BM2 (w:World) (B:Nat) (a0 a1:Value) (W:World):Prop:=Below w.heap.size w W∧B<W.heap.size∧W.cell? ⟨B,0,none⟩=some a0∧W.cell? ⟨B,1,none⟩=some a1
theorem BM2.below {w:World} {B:Nat} {a0 a1:Value} {W W':World} (h:BM2 w B a0 a1 W) (hb:Below W.heap.size W W'):BM2 w B a0 a1 W':=by
 obtain ⟨h0,l1,p0,p1⟩:=h
 have f:=fun o=>hb.cell (p:=⟨B,o,none⟩) l1
 have hs:=hb.size
 exact ⟨h0.trans (hb.mono h0.size),by omega,(f 0).trans p0,(f 1).trans p1⟩
theorem BM2.drew {w:World} {B:Nat} {a0 a1:Value} {W:World} (h:BM2 w B a0 a1 W):BM2 w B a0 a1 W.drew:=⟨h.1.drew,h.2⟩
theorem BM2.grown {w:World} {B:Nat} {a0 a1:Value} {W W':World} {v:Value} {wr:World} {base e size n:Nat} {xs:List Value} (h:BM2 w B a0 a1 W) (hg:W.grownBy W' v.ownBlock) (ho:wr.ownsRow base e size v n xs) (hB:B=wr.heap.size:=by rfl) (hbase:w.heap.size≤base:=by omega):BM2 w B a0 a1 W':=by
 obtain ⟨h0,l1,p0,p1⟩:=h
 have hne:some B≠v.ownBlock:=fun e=>by have:=(ho.lt B e.symm).2;omega
 have e:=hg.block B l1 hne
 exact ⟨h0.grown hg h0.size (fun k e=>by have:=(ho.lt k e).1;omega),by have:=hg.size;omega,(World.cell?_of_block (a:=⟨B,0,none⟩) e).trans p0,(World.cell?_of_block (a:=⟨B,1,none⟩) e).trans p1⟩
theorem two_cells (W:World) (i:ByteArray) (n:Int) (T:TypeId):∀(j:Nat) u,(N.cells ⟨i,n⟩)[j]? = some u→(W.alloc (.cells #[.string i,.int .i64 n] T)).cell? ((⟨W.heap.size,0,none⟩:Addr).add j)=some u:=by
 intro j u hx
 have hx2:j<2:=by
  have:=(List.getElem?_eq_some_iff.1 hx).1
  simpa [N.cells] using this
 match j,hx2,hx with
 | 0,_,hx=>simp [N.cells] at hx;subst hx;simp [Addr.add,go_sem]
 | 1,_,hx=>simp [N.cells] at hx;subst hx;simp [Addr.add,go_sem]
theorem two_one (x:N):∀u∈N.cells x,u.oneCell'=true:=by
 intro u hu
 simp only [N.cells,List.mem_cons,List.not_mem_nil,or_false] at hu
 rcases hu with rfl|rfl<;>rfl
theorem filter_more (p:N→Bool) (xs:List N) (k:Nat) (h:k<xs.length):(xs.take (k+1)).filter p=(xs.take k).filter p++(bif p (xs.getD k N.zero) then [xs.getD k N.zero] else []):=by
 rw [take_more (z:=N.zero) xs k h,List.filter_append]
 generalize xs.getD k N.zero=X
 cases hr:p X<;>simp [hr]
def nz (x:N):Bool:=decide (x.n≠0)
theorem nz_cases (i:ByteArray) (n:Int):((n==0)=true∧(n != 0)=false∧nz ⟨i,n⟩=false)∨((n==0)=false∧(n != 0)=true∧nz ⟨i,n⟩=true):=by
 unfold nz
 by_cases h:n=0
 ·exact .inl ⟨by simpa using h,by simpa using h,by simpa using h⟩
 ·exact .inr ⟨by simpa using h,by simpa using h,by simpa using h⟩
theorem put_any (ao:Option Addr) (cap:Nat) (es:List N) (w:World) (hlen:es.length≤1048576) (hS:∀e∈es,e.i.size≤1048576) (hI:Lis ao es w) :
 Calls Tryz.prog 186 #[.slice ao es.length cap] w fun e w'=>∃v,e=.returned v∧w'.ownsRow w.heap.size 209 2 v (es.filter nz).length (cellsAll N.cells (es.filter nz))∧Below w.heap.size w w':=by
 obtain ⟨i0,hi,hz0,hz1,hz2⟩:=info_parts infoN
 have HI:=H_ hI
 have HS:=H_ hS
 obtain ⟨len,hl⟩:∃len,len=es.length:=⟨_,rfl⟩
 rw [←hl] at hlen ⊢
 have HL:=H_ hl
 clear hI hS hl
 go_enter Tryz.func186,Tryz.ntmps186
 go_wp2_with fail
 go_loopw [3,8] (fun v z wr=>∃k:Nat,k≤len∧z=.int .i64 k∧Hid (wr.ownsRow w.heap.size 209 2 v ((es.take k).filter nz).length (cellsAll N.cells ((es.take k).filter nz)))∧Hid (Below w.heap.size w wr)) (fun v z _=>len-(intOf z).toNat)
 case atStart=>exact ⟨0,by omega,rfl,H_ (World.ownsRow_nil _ _ _ _),H_ (Below.refl _ _)⟩
 case round =>
  obtain ⟨k,hk,rfl,HO,HB⟩:=hrel
  by_cases hlt:k<len
  ·have hlt2:(k:Int)<(len:Int):=by omega
   obtain ⟨b,off,rfl,hbl,c0,c1⟩:=(HI.out.below HB.out).at k (by have:=HL.out;omega)
   have hsz:=HS.out _ (getD_mem (z:=N.zero) es k (by have:=HL.out;omega))
   have HF:=H_ (filter_more nz es k (by have:=HL.out;omega))
   have HLF:Hid (((es.take k).filter nz).length≤1048576):=H_ (by
    have h1:=List.length_filter_le nz (es.take k)
    have h2:=List.length_take_le k es
    omega)
   obtain ⟨F,hF⟩:∃F,F=(es.take k).filter nz:=⟨_,rfl⟩
   rw [←hF] at HO HF HLF
   clear hF
   generalize es.getD k N.zero=X at *
   obtain ⟨xi,xn⟩:=X
   dsimp only at c0 c1 hsz
   rcases nz_cases xi xn with ⟨q1,q2,q3⟩|⟨q1,q2,q3⟩
   ·rw [q3] at HF
    go_wp2_with fail
    go_roundw
    case rel=>exact ⟨k+1,by omega,by go_num,H_ (by rw [HF.out,cond_false,List.append_nil];exact HO.out.alloc _),H_ (HB.out.alloc HB.out.size _)⟩
    case measure=>simp [intOf];omega
   ·rw [q3] at HF
    have HCL:=H_ (fun w=>CloneR.clone_any xi w (by omega))
    have HAl:Hid (BM2 w wr.heap.size (.string xi) (.int .i64 xn) (wr.alloc (.cells #[.string xi,.int .i64 xn] 209))):=H_ ⟨HB.out.alloc HB.out.size _,by simp,by simp [go_sem],by simp [go_sem]⟩
    have HAd:=H_ HAl.out.drew
    have HOA:=H_ (own_drew (HO.out.alloc (.cells #[.string xi,.int .i64 xn] 209)))
    have sz1:F.length+1≤maxLen:=by unfold maxLen;have:=HLF.out;omega
    have sz2:(F.length+1)*24≤140737488355328:=by have:=HLF.out;omega
    have sz3:0<2:=by omega
    go_wp2_with fail
    go_region_held3 (fun W=>Below w.heap.size w W∧wr.heap.size<W.heap.size∧W.cell? ⟨wr.heap.size,0,none⟩=some (.string xi)∧W.cell? ⟨wr.heap.size,1,none⟩=some (.int .i64 xn))
     (first|assumption|(exact HAl.out)|(exact HAd.out)|(exact BM2.below (w:=w) (B:=wr.heap.size) (by assumption) hb1)|(exact BM2.below (w:=w) (B:=wr.heap.size) (by assumption) (al_ _ _))|(exact BM2.grown (w:=w) (B:=wr.heap.size) (by assumption) hgrow HO.out rfl (Nat.le_refl _)))
     (first|(go_at_call 133;refine (HCL.out _).mono ?_;rintro e w1 ⟨rfl,hb1⟩;have HO1:=H_ (own_below HOA.out hb1);have HS1:Hid (w.heap.size≤w1.heap.size):=H_ (Nat.le_trans HAd.out.1.size hb1.size))|(refine step_append_own rfl _ _ 120 rfl w.heap.size 209 i0 (.agg #[.string ⟨#[]⟩,.int .i64 0]) 2 24 Tryz.underlying120 hi hz0 hz1 hz2 rfl sz3 _ _ _ rfl (HO1.out.alloc _) ⟨w1.heap.size,0,none⟩ 1 1 (N.cells ⟨xi,xn⟩) rfl rfl (two_cells _ _ _ _) (two_one _) sz1 sz2 (Nat.le_trans HS1.out (by simp)) ?_;intro v' w4 hown hgrow hne))
    rename_i hS
    have HB4:=H_ hS.1
    have HO4:Hid (w4.ownsRow w.heap.size 209 2 v' (F ++ [(⟨xi,xn⟩:N)]).length (cellsAll N.cells (F ++ [(⟨xi,xn⟩:N)]))):=H_ (by rw [cellsAll_app,List.length_append];exact hown)
    clear hown hgrow hne hS
    go_wp2_with fail
    go_roundw
    case rel=>exact ⟨k+1,by omega,by go_num,H_ (by rw [HF.out,cond_true];exact HO4.out),HB4⟩
    case measure=>simp [intOf];omega
  ·have hlt2:¬(k:Int)<(len:Int):=by omega
   obtain rfl:k=len:=by omega
   have HE:Hid (es.take k=es):=H_ (List.take_of_length_le (by have:=HL.out;omega))
   rw [HE.out] at HO
   go_wp2_with fail
   go_ret
   exact ⟨_,rfl,HO.out,HB.out⟩
end LinR
end Go.Proofs.YtnceeaccbcfopaaGreatDoor
namespace Go.Proofs.YtnceeaccbcfopaaGreatDoor
open Go.ChangeShapes Go.WideShapes Go.ChangeAt Go.RowKit Go.Deep
set_option linter.unusedVariables false
namespace LinR
def IsLis (w:World) (a:Option Addr) (es:List N):Prop:=es.length≤maxLen∧Lis a es w∧∀e∈es,e.i.size≤maxLen
section
variable {H:Type} {enc:TypeId × Value→H} {P:Program} {w:World} {base:Nat} {spare:Nat→Bool} {held:Bool}
theorem list2 {α:Type} {cs:List α} (h:cs.length=2):∃c0 c1,cs=[c0,c1]:=by
 match cs,h with
 | [c0,c1],_=>exact ⟨c0,c1,rfl⟩
theorem line_cells {t:TypeId} {f0 f1:Field} {fuel:Nat} {cs:List Value} {x:DataW H × List MemPlace} (hs:P.underlying t=some (.struct #[f0,f1])) (hone:oneCellFields P #[f0,f1]=true) (hC:P.cellsOf t=2)
 (u0:P.underlying f0.type=some .string) (u1:P.underlying f1.type=some (.int .i64))
 (h:DataW.trod enc P w base spare held fuel t cs=some x) :
 ∃(i:ByteArray) (n:Int),cs=[.string i,.int .i64 n]∧i.size≤maxLen:=by
 obtain ⟨xs,n,_,_,hl,hlen,hf⟩:=DataW.trod_struct hs h
 obtain ⟨c0,c1,rfl⟩:=list2 (hl.trans hC)
 obtain ⟨y0,y1,rfl⟩:=list2 (show xs.length=2 from hlen)
 obtain ⟨o0,k0⟩:=hone_of hone 0 f0 rfl
 obtain ⟨o1,k1⟩:=hone_of hone 1 f1 rfl
 have h0:=hf 0 f0 rfl
 have h1:=hf 1 f1 rfl
 simp [o0,k0] at h0
 simp [o1,k1] at h1
 obtain ⟨i,e0,_,s0⟩:=DataW.trod_string u0 h0
 obtain ⟨p,e1,_,s1⟩:=DataW.trod_int u1 h1
 simp only [List.cons.injEq,and_true] at e0 e1
 subst e0 e1
 exact ⟨i,p,rfl,s0⟩
theorem cells_at {a:Addr} {cs:List Value} {n:Nat} (h:w.cells? base a n=some cs) (j:Nat) (hj:j<n):w.cell? (a.add j)=cs[j]?:=by
 obtain ⟨_,h1,h2⟩:=World.cells?_some h
 exact h2 j hj
theorem lis_open {t e:TypeId} {f0 f1:Field} {fuel:Nat} {ao:Option Addr} {len cap:Nat} {x:DataW H × List MemPlace} (ht:P.underlying t=some (.slice e)) (hs:P.underlying e=some (.struct #[f0,f1])) (hone:oneCellFields P #[f0,f1]=true) (hC:P.cellsOf e=2)
 (u0:P.underlying f0.type=some .string) (u1:P.underlying f1.type=some (.int .i64))
 (h:DataW.trod enc P w base spare held fuel t [.slice ao len cap]=some x):∃es,es.length=len∧IsLis w ao es:=by
 rcases DataW.trod_slice ht h with ⟨hcs,_⟩|⟨a,len',cap',elems,rest,n,_,hcs,_,hb,hl,hm,hlen,hel,_,_⟩
 ·simp only [List.cons.injEq,Value.slice.injEq,and_true] at hcs
  obtain ⟨rfl,rfl,rfl⟩:=hcs
  exact ⟨[],rfl,Nat.zero_le _,.inl rfl,fun e he=>by cases he⟩
 ·simp only [List.cons.injEq,Value.slice.injEq,and_true] at hcs
  obtain ⟨rfl,rfl,rfl⟩:=hcs
  have key:∀i,i<len→∃E1:N,E1.i.size≤maxLen∧w.cells? base (a.add (i*2)) 2=some E1.cells:=by
   intro i hi
   have h1:=hel i hi
   rw [hC,List.getElem?_eq_getElem (by omega)] at h1
   cases hc:w.cells? base (a.add (i*2)) 2 with
   | none=>rw [hc] at h1;simp at h1
   | some cs =>
    rw [hc] at h1
    simp only [Option.bind_some] at h1
    obtain ⟨i',n',rfl,q0⟩:=line_cells hs hone hC u0 u1 h1
    exact ⟨⟨i',n'⟩,q0,rfl⟩
  have:∃f:Nat→N,∀i,i<len→(f i).i.size≤maxLen∧w.cells? base (a.add (i*2)) 2=some (f i).cells:=by
   refine ⟨fun i=>if hi:i<len then Classical.choose (key i hi) else N.zero,fun i hi=>?_⟩
   simp only [hi,dif_pos]
   exact Classical.choose_spec (key i hi)
  obtain ⟨f,hf⟩:=this
  refine ⟨(List.range len).map f,by simp,by simp;omega,?_,fun e he=>?_⟩
  ·by_cases h0:len=0
   ·exact .inl (by simpa using h0)
   ·obtain ⟨b,off,spot⟩:=a
    have hc0:=cells_at (hf 0 (by omega)).2 0 (by omega)
    have hspot:spot=none:=by
     have:w.cell? ⟨b,off,spot⟩=some (.string (f 0).i):=by simpa [Addr.add,N.cells] using hc0
     exact World.cell?_spot this
    subst hspot
    refine .inr ⟨b,off,rfl,?_,fun j hj=>?_⟩
    ·have:w.cell? ⟨b,off,none⟩=some (.string (f 0).i):=by simpa [Addr.add,N.cells] using hc0
     exact World.block_lt_of_cell? w _ this
    ·have hj:j<len:=by simpa using hj
     have e:((List.range len).map f).getD j N.zero=f j:=by simp [List.getD,hj]
     rw [e]
     have g:=fun k (hk:k<2)=>cells_at (hf j hj).2 k hk
     have ad:∀k,((⟨b,off,none⟩:Addr).add (j*2)).add k=⟨b,off+j*2+k,none⟩:=by
      intro k
      unfold Addr.add
      split<;>split<;>simp_all
     simp only [ad] at g
     exact fun i hi=>g i hi
  ·simp only [List.mem_map,List.mem_range] at he
   obtain ⟨i,hi,rfl⟩:=he
   exact (hf i hi).1
end
end LinR
end Go.Proofs.YtnceeaccbcfopaaGreatDoor
namespace Go.Proofs.YtnceeaccbcfopaaGreatDoor
open Go.RowKit
namespace LinR
open RowG
end LinR
end Go.Proofs.YtnceeaccbcfopaaGreatDoor
namespace Go.Proofs.YtnceeaccbcfopaaGreatDoor
open Go.ChangeShapes Go.WideShapes Go.ChangeAt Go.RowKit
set_option linter.unusedVariables false
namespace LinR
open RowG
def szF (L0:Int) (es:List N):Int:=if (es.length:Int)+szL es≤L0 then L0-(es.length:Int)-szL es else -1
theorem szs_from (L0:Int) (h0:0≤L0) (h1:L0≤1048576) (ao:Option Addr) (cap:Nat) (es:List N) (w:World) (hm:es.length≤maxLen) (hI:Lis ao es w) (hw:∀e∈es,e.i.size≤maxLen) :
 Calls Tryz.prog 102 #[.slice ao es.length cap,.int .i64 L0] w fun e w'=>e=.returned (.int .i64 (szF L0 es))∧Below w.heap.size w w':=by
 obtain ⟨len,hlen⟩:∃len,len=es.length:=⟨_,rfl⟩
 rw [←hlen] at hm ⊢
 have HZ:=H_ hlen
 have HI:=H_ hI
 have HW:=H_ hw
 have HR:Hid (szF L0 es=if (es.length:Int)+szL es≤L0 then L0-(es.length:Int)-szL es else -1):=rfl
 generalize szF L0 es=R at *
 unfold maxLen at hm
 clear hI hw hlen
 by_cases hbig:L0<len
 ·have hl2:(L0:Int)-(len:Int)<0:=by omega
  have HN:Hid (R=-1):=H_ (by rw [HR.out,if_neg];have:=szL_nn es;have:=HZ.out;omega)
  go_enter Tryz.func102,Tryz.ntmps102
  go_wp2_with fail
  go_ret
  exact ⟨ret_int HN.out.symm,Below.refl _ _⟩
 have hl:(len:Int)≤L0:=by omega
 have hl2:¬(L0:Int)-(len:Int)<0:=by omega
 go_enter Tryz.func102,Tryz.ntmps102
 go_wp2_with fail
 go_loopw [5,1] (fun x y w'=>∃(j:Nat) (L:Int),j≤len∧x=.int .i64 j∧y=.int .i64 L∧0≤L∧L≤1048576∧Hid (L=L0-(len:Int)-szL (es.take j))∧Hid (Below w.heap.size w w')) (fun x y w'=>len-(intOf x).toNat)
 case atStart=>exact ⟨0,L0-(len:Int),Nat.zero_le _,rfl,rfl,by omega,by omega,H_ (by simp [szL]),H_ (Below.refl _ _)⟩
 case round =>
  obtain ⟨j,L,hj,rfl,rfl,l0,l1,HL,HB⟩:=hrel
  by_cases hlt:j<len
  ·obtain ⟨b,off,rfl,hbl,c0,c1⟩:=(HI.out.below HB.out).at j (by have:=HZ.out;omega)
   have HS:=H_ (szL_take es j (by have:=HZ.out;omega))
   have q1:=HW.out _ (getD_mem (z:=N.zero) es j (by have:=HZ.out;omega))
   generalize es.getD j N.zero=E1 at *
   obtain ⟨i,n⟩:=E1
   have HS:Hid (szL (es.take (j+1))=szL (es.take j)+(i.size:Int)):=HS
   have HC:=H_ (fun w=>sz_any i n L q1 l0 l1 w)
   have hlt2:(j:Int)<(len:Int):=by omega
   clear q1
   by_cases hs:(i.size:Int)≤L
   ·rw [if_pos hs] at HC
    have HN:Hid (L-(i.size:Int)=L0-(len:Int)-szL (es.take (j+1))):=H_ (by rw [HS.out,HL.out];omega)
    have r0:0≤L-(i.size:Int):=by omega
    have r1:L-(i.size:Int)≤1048576:=by omega
    generalize L-(i.size:Int)=L2 at *
    clear hs
    go_wp2_with fail
    refine (HC.out _).mono ?_
    rintro e w1 ⟨rfl,hb⟩
    have HB1:=HT_ HB hb
    clear hb HB c0 c1
    have r2:¬L2<0:=by omega
    go_wp2_with fail
    go_roundw
    case rel=>exact ⟨j+1,L2,by omega,by go_num,rfl,r0,r1,HN,HB1⟩
    case measure=>simp [intOf];omega
   ·rw [if_neg hs] at HC
    have HN:Hid (R=-1):=H_ (by rw [HR.out,if_neg];have:=szL_le es (j+1);have:=HS.out;have:=HL.out;have:=HZ.out;omega)
    go_wp2_with fail
    refine (HC.out _).mono ?_
    rintro e w1 ⟨rfl,hb⟩
    have HB1:=HT_ HB hb
    clear hb HB c0 c1
    go_wp2_with fail
    go_ret
    exact ⟨ret_int HN.out.symm,HB1.out⟩
  ·obtain rfl:j=len:=by omega
   have HN:Hid (R=L):=H_ (by
    have e:=HL.out
    rw [List.take_of_length_le (by have:=HZ.out;omega)] at e
    rw [HR.out,if_pos (by have:=HZ.out;omega)];have:=HZ.out;omega)
   go_wp2_with fail
   go_ret
   exact ⟨ret_int HN.out.symm,HB.out⟩
theorem szL_memF {es:List N} {e:N} (h:e∈es):(e.i.size:Int)≤szL es:=by
 induction es with
 | nil=>cases h
 | cons x es ih =>
  have hn:=szL_nn es
  have hx:szL (x::es)=(x.i.size:Int)+szL es:=by simp [szL]
  rcases List.mem_cons.1 h with rfl|h
  ·omega
  ·have:=ih h;omega
end LinR
namespace DocR
open LinR RowG
open CatR (Blk Blk.new)
open EvtR (Pt)
structure D where
 a:ByteArray
 mo:Int
 sq:Int
 ls:List N
def dcells (x:D) (la:Option Addr) (lc:Nat):Array Value:=#[.string x.a,.int .i64 x.mo,.int .i64 x.sq,.slice la x.ls.length lc]
def IsD (v:Value) (x:D) (W:World):Prop:=∃la lc,v=.agg (dcells x la lc)∧Lis la x.ls W
theorem IsD.below {v:Value} {x:D} {w w':World} (h:IsD v x w) (hb:Below w.heap.size w w'):IsD v x w':=by
 obtain ⟨la,lc,e,hL⟩:=h
 exact ⟨la,lc,e,hL.below hb⟩
def D.In (x:D):Prop:=x.a.size≤maxLen∧x.ls.length≤maxLen∧∀e∈x.ls,e.i.size≤maxLen
def dszR (L0:Int) (x:D):Int:=if (x.a.size:Int)≤L0 then szF (L0-(x.a.size:Int)) x.ls else -1
def D.Sm (x:D):Prop:=x.a.size≤1048576∧x.ls.length≤1048576∧∀e∈x.ls,e.i.size≤1048576
theorem dsz_small {L0:Int} {x:D} (hL:L0≤1048576) (h:¬dszR L0 x<0):x.Sm∧dszR L0 x≤L0:=by
 unfold dszR szF at *
 have hn:=szL_nn x.ls
 by_cases q:(x.a.size:Int)≤L0
 ·rw [if_pos q] at h ⊢
  by_cases q2:(x.ls.length:Int)+szL x.ls≤L0-(x.a.size:Int)
  ·rw [if_pos q2]
   exact ⟨⟨by omega,by omega,fun e he=>by have:=szL_memF he;omega⟩,by omega⟩
  ·rw [if_neg q2] at h;exact absurd (by omega) h
 ·rw [if_neg q] at h;exact absurd (by omega) h
theorem szD_in (a:ByteArray) (mo sq:Int) (la:Option Addr) (ll lc:Nat) (L0 R:Int) (w:World) (h0:0≤L0) (h1:L0≤1048576) (ha:a.size≤maxLen)
 (hs:(a.size:Int)≤L0→∀W,Below w.heap.size w W→Calls Tryz.prog 102 #[.slice la ll lc,.int .i64 (L0-(a.size:Int))] W fun e w'=>e=.returned (.int .i64 R)∧Below W.heap.size W w') :
 Calls Tryz.prog 50 #[.agg #[.string a,.int .i64 mo,.int .i64 sq,.slice la ll lc],.int .i64 L0] w fun e w'=>e=.returned (.int .i64 (if (a.size:Int)≤L0 then (if R<0 then -1 else R) else -1))∧Below w.heap.size w w':=by
 unfold maxLen at ha
 have HB0:Hid (Below w.heap.size w (w.alloc (.cells #[.string a,.int .i64 mo,.int .i64 sq,.slice la ll lc] 99))):=H_ (al_ _ _)
 by_cases q:(a.size:Int)≤L0
 ·rw [if_pos q]
  have q2:¬L0-(a.size:Int)<0:=by omega
  have HS:=H_ (hs q)
  have b1:0≤L0-(a.size:Int):=by omega
  have b2:L0-(a.size:Int)≤1048576:=by omega
  clear hs q
  by_cases hr:R<0
  all_goals
   first|rw [if_pos hr]|rw [if_neg hr]
   go_enter Tryz.func50,Tryz.ntmps50
   go_wp2_with fail
   refine (HS.out _ HB0.out).mono ?_
   rintro e w1 ⟨rfl,hb1⟩
   have HB1:=HT_ HB0 hb1
   clear hb1
   go_wp2_with fail
   go_ret
   exact ⟨rfl,HB1.out⟩
 ·rw [if_neg q]
  have q2:L0-(a.size:Int)<0:=by omega
  clear hs q
  go_enter Tryz.func50,Tryz.ntmps50
  go_wp2_with fail
  go_ret
  exact ⟨rfl,HB0.out⟩
theorem szD_any (x:D) (la:Option Addr) (lc:Nat) (L0:Int) (w:World) (h0:0≤L0) (h1:L0≤1048576) (hin:x.In) (hL:Lis la x.ls w) :
 Calls Tryz.prog 50 #[.agg (dcells x la lc),.int .i64 L0] w fun e w'=>e=.returned (.int .i64 (dszR L0 x))∧Below w.heap.size w w':=by
 have h:=szD_in x.a x.mo x.sq la x.ls.length lc L0 (szF (L0-(x.a.size:Int)) x.ls) w h0 h1 hin.1 (fun q W hW=>szs_from _ (by omega) (by omega) la lc x.ls W hin.2.1 (hL.below hW) hin.2.2)
 have e:(if szF (L0-(x.a.size:Int)) x.ls<0 then -1 else szF (L0-(x.a.size:Int)) x.ls)=szF (L0-(x.a.size:Int)) x.ls:=by
  unfold szF
  have:=szL_nn x.ls
  split
  ·rw [if_neg (by omega)]
  ·rw [if_pos (by omega)]
 rw [e] at h
 exact h
def MadeD (base:Nat) (x:D) (v:Value) (w:World):Prop:=∃la lc,v=.agg (dcells x la lc)∧MadeG 2 N.cells N.zero base la x.ls w
theorem MadeD.below {base:Nat} {x:D} {v:Value} {w w':World} (h:MadeD base x v w) (hb:Below w.heap.size w w'):MadeD base x v w':=by
 obtain ⟨la,lc,hv,h1⟩:=h
 exact ⟨la,lc,hv,h1.below hb⟩
theorem MadeD.low {base base':Nat} {x:D} {v:Value} {w:World} (h:MadeD base x v w) (hb:base'≤base):MadeD base' x v w:=by
 obtain ⟨la,lc,hv,h1⟩:=h
 exact ⟨la,lc,hv,h1.low hb⟩
theorem MadeD.is {base:Nat} {x:D} {v:Value} {w:World} (h:MadeD base x v w):IsD v x w:=by
 obtain ⟨la,lc,hv,h1⟩:=h
 exact ⟨la,lc,hv,h1.rws⟩
theorem toD_in (a:ByteArray) (mo sq:Int) (la:Option Addr) (lc:Nat) (ls:List N) (w:World) (hl:ls.length≤1048576) (hL:Lis la ls w) :
 Calls Tryz.prog 69 #[.agg #[.string a,.int .i64 mo,.int .i64 sq,.slice la ls.length lc]] w fun e w'=>∃v,e=.returned v∧MadeD w.heap.size ⟨a,mo,sq,ls⟩ v w'∧Below w.heap.size w w':=by
 have H1:=H_ (fun W (hW:Below w.heap.size w W)=>toLis_any la lc ls W hl (hL.below hW))
 have HF:Hid (∀W g1,w.heap.size≤g1→MadeG 2 N.cells N.zero g1 (some ⟨g1,0,none⟩) ls W→MadeD w.heap.size ⟨a,mo,sq,ls⟩ (.agg #[.string a,.int .i64 mo,.int .i64 sq,.slice (some ⟨g1,0,none⟩) ls.length ls.length]) W):=H_ (fun W g1 l1 m1=>⟨_,_,rfl,m1.low l1⟩)
 generalize MadeD w.heap.size ⟨a,mo,sq,ls⟩=M at *
 obtain ⟨ll,hll⟩:∃ll,ll=ls.length:=⟨_,rfl⟩
 have HLL:=H_ hll
 rw [←hll] at hl H1 HF ⊢
 clear hL hll
 have HB0:Hid (Below w.heap.size w (((w.alloc (.cells #[.string a,.int .i64 mo,.int .i64 sq,.slice la ll lc] 99)).alloc (.cells #[.string ⟨#[]⟩,.int .i64 0,.int .i64 0,.slice none 0 0] 122)).alloc (.cells #[.string a,.int .i64 mo,.int .i64 sq,.slice none 0 0] 122))):=H_ (((al_ _ _).alloc (by simp) _).alloc (by simp;omega) _)
 have HX0:=H_ (((BlkW.new w [.string a,.int .i64 mo,.int .i64 sq,.slice la ll lc] 99).below ((Below.refl _ _).alloc (Nat.le_refl _) (Obj.cells #[.string ⟨#[]⟩,.int .i64 0,.int .i64 0,.slice none 0 0] 122))).below ((Below.refl _ _).alloc (Nat.le_refl _) (Obj.cells #[.string a,.int .i64 mo,.int .i64 sq,.slice none 0 0] 122)))
 have HY0:=H_ ((BlkW.new (w.alloc (.cells #[.string a,.int .i64 mo,.int .i64 sq,.slice la ll lc] 99)) [.string ⟨#[]⟩,.int .i64 0,.int .i64 0,.slice none 0 0] 122).below ((Below.refl _ _).alloc (Nat.le_refl _) (Obj.cells #[.string a,.int .i64 mo,.int .i64 sq,.slice none 0 0] 122)))
 have HZ0:=H_ (BlkW.new ((w.alloc (.cells #[.string a,.int .i64 mo,.int .i64 sq,.slice la ll lc] 99)).alloc (.cells #[.string ⟨#[]⟩,.int .i64 0,.int .i64 0,.slice none 0 0] 122)) [.string a,.int .i64 mo,.int .i64 sq,.slice none 0 0] 122)
 have e1:(w.alloc (.cells #[.string a,.int .i64 mo,.int .i64 sq,.slice la ll lc] 99)).heap.size=w.heap.size+1:=by simp
 have e2:((w.alloc (.cells #[.string a,.int .i64 mo,.int .i64 sq,.slice la ll lc] 99)).alloc (.cells #[.string ⟨#[]⟩,.int .i64 0,.int .i64 0,.slice none 0 0] 122)).heap.size=w.heap.size+1+1:=by simp
 rw [e1] at HY0
 rw [e2] at HZ0
 clear e1 e2
 go_enter Tryz.func69,Tryz.ntmps69
 go_wp2_with fail
 refine (H1.out _ HB0.out).mono ?_
 rintro e w1 ⟨rfl,hT1,hP1,hb1⟩
 have HM1:=H_ (show MadeG 2 N.cells N.zero _ _ ls w1 from ⟨hT1,.inr ⟨_,rfl,Nat.le_refl _,HLL.out ▸ hP1⟩⟩)
 obtain ⟨g1,hg1⟩:∃g1,g1=(((w.alloc (.cells #[.string a,.int .i64 mo,.int .i64 sq,.slice la ll lc] 99)).alloc (.cells #[.string ⟨#[]⟩,.int .i64 0,.int .i64 0,.slice none 0 0] 122)).alloc (.cells #[.string a,.int .i64 mo,.int .i64 sq,.slice none 0 0] 122)).heap.size:=⟨_,rfl⟩
 have HG1:Hid (w.heap.size+3=g1):=H_ (by rw [hg1];simp)
 rw [←hg1] at HM1 ⊢
 clear hg1
 have HY1:=H_ (HY0.out.below hb1)
 have HZ1:=H_ (HZ0.out.below hb1)
 have HB1:=HT_ HB0 hb1
 clear hT1 hP1 hb1 HX0 HY0 HZ0 HB0
 obtain ⟨⟨zl,zk⟩,zf⟩:=HZ1.out
 have z0:=q_ zk 0
 have f0:=zf 0 (by simp)
 have z1:=q_ zk 1
 have f1:=zf 1 (by simp)
 have z2:=q_ zk 2
 have f2:=zf 2 (by simp)
 have z3:=q_ zk 3
 have f3:=zf 3 (by simp)
 obtain ⟨⟨yl,yk⟩,yf⟩:=HY1.out
 have y0:=q_ yk 0
 have q0:=yf 0 (by simp)
 have y1:=q_ yk 1
 have q1:=yf 1 (by simp)
 have y2:=q_ yk 2
 have q2:=yf 2 (by simp)
 have y3:=q_ yk 3
 have q3:=yf 3 (by simp)
 clear zk zf yk yf HY1 HZ1
 have HN1:Hid (∀b off,(some ⟨g1,0,none⟩:Option Addr)=some ⟨b,off,none⟩→∀g,g≤w.heap.size+1+1→b≠g):=H_ (fun b off e g hg=>by simp at e;have:=HG1.out;omega)
 go_wp2_with fail
 refine bodyPost_ret (v:=.agg #[.string a,.int .i64 mo,.int .i64 sq,.slice (some ⟨g1,0,none⟩) ll ll]) (by simp [results,Tryz.results69,go_sem,y0,y1,y2,y3]) rfl ⟨_,rfl,HF.out _ g1 (by have:=HG1.out;omega) ?_,?_⟩
 ·exact (MadeG.put (MadeG.put (MadeG.put (MadeG.put (MadeG.put HM1.out _ _ _ (.inr (fun b off e=>HN1.out b off e _ (by omega)))) _ _ _ (.inr (fun b off e=>HN1.out b off e _ (by omega)))) _ _ _ (.inr (fun b off e=>HN1.out b off e _ (by omega)))) _ _ _ (.inr (fun b off e=>HN1.out b off e _ (by omega)))) _ _ _ (.inr (fun b off e=>HN1.out b off e _ (by omega))))
 ·exact (((((HB1.out.setCell (by simp;omega) _).setCell (by simp) _).setCell (by simp) _).setCell (by simp) _).setCell (by simp) _)
theorem toD_any (v:Value) (x:D) (w:World) (hl:x.ls.length≤1048576) (h:IsD v x w) :
 Calls Tryz.prog 69 #[v] w fun e w'=>∃v',e=.returned v'∧MadeD w.heap.size x v' w'∧Below w.heap.size w w':=by
 obtain ⟨la,lc,rfl,hL⟩:=h
 exact toD_in x.a x.mo x.sq la lc x.ls w hl hL
theorem eqD_in (a:ByteArray) (mo sq:Int) (la:Option Addr) (ll lc:Nat) (la':Option Addr) (lc':Nat) (w:World)
 (h1:∀W,Below w.heap.size w W→Calls Tryz.prog 139 #[.slice la ll lc,.slice la' ll lc'] W fun e w'=>e=.returned (.bool true)∧Below W.heap.size W w') :
 Calls Tryz.prog 81 #[.agg #[.string a,.int .i64 mo,.int .i64 sq,.slice la ll lc],.agg #[.string a,.int .i64 mo,.int .i64 sq,.slice la' ll lc']] w fun e w'=>e=.returned (.bool true)∧Below w.heap.size w w':=by
 have H1:=H_ h1
 have HB0:Hid (Below w.heap.size w ((w.alloc (.cells #[.string a,.int .i64 mo,.int .i64 sq,.slice la ll lc] 122)).alloc (.cells #[.string a,.int .i64 mo,.int .i64 sq,.slice la' ll lc'] 122))):=H_ ((al_ _ _).alloc (by simp) _)
 clear h1
 go_enter Tryz.func81,Tryz.ntmps81
 go_wp2_with fail
 refine (H1.out _ HB0.out).mono ?_
 rintro e w1 ⟨rfl,hb1⟩
 have HB1:=HT_ HB0 hb1
 clear hb1
 go_wp2_with fail
 go_ret
 exact ⟨rfl,HB1.out⟩
theorem eqD_any (v v':Value) (x:D) (w:World) (hl:x.ls.length≤1048576) (h:IsD v x w) (h':IsD v' x w) :
 Calls Tryz.prog 81 #[v,v'] w fun e w'=>e=.returned (.bool true)∧Below w.heap.size w w':=by
 obtain ⟨la,lc,rfl,hL⟩:=h
 obtain ⟨la',lc',rfl,hL'⟩:=h'
 exact eqD_in x.a x.mo x.sq la x.ls.length lc la' lc' w (fun W hW=>eqLis_any la la' lc lc' x.ls W hl (hL.below hW) (hL'.below hW))
end DocR
end Go.Proofs.YtnceeaccbcfopaaGreatDoor
