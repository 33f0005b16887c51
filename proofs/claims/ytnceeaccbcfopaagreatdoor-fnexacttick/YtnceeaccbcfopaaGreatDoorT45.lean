/-
  What right lines are: both sides say the same. The condition: at most 1048576 lines, whose Meters have at most 1048576 bytes.
-/
import Derived.Deep.RegionHeld3
import Derived.BigQuiet
import Derived.Deep.QuietTactic
import Derived.Test.YtnceeaccbcfopaaGreatDoorT44
namespace Go.Proofs.YtnceeaccbcfopaaGreatDoor
open Go.ChangeShapes Go.WideShapes Go.ChangeAt Go.RowKit
set_option linter.unusedVariables false
namespace LinR
open RowG LtR
open NameR (nameB)
def nOk (n:Int):Bool:=decide (-1000000000000000≤n∧n≤1000000000000000)
def lOk (x:N):Bool:=nameB x.i&&(nOk x.n&&decide (x.n≠0))
def ahd (es:List N):Nat→ByteArray
 | 0=>⟨#[]⟩
 | k+1=>(es.getD k N.zero).i
def SOk (es:List N) (k:Nat):Prop:=∀i,i<k→lt (ahd es i) (es.getD i N.zero).i=true∧lOk (es.getD i N.zero)=true
def SRight (es:List N):Prop:=es.length≤6∧SOk es es.length
def SOkDec (es:List N) (k:Nat):Decidable (SOk es k):=inferInstanceAs (Decidable (∀i,i<k→lt (ahd es i) (es.getD i N.zero).i=true∧lOk (es.getD i N.zero)=true))
def SRightDec (es:List N):Decidable (SRight es) :=
 haveI:=SOkDec es es.length
 inferInstanceAs (Decidable (es.length≤6∧SOk es es.length))
def sB (es:List N):Bool:=@decide (SRight es) (SRightDec es)
theorem sB_no {es:List N} (h:¬SRight es):sB es=false:=by unfold sB;exact @decide_eq_false _ (SRightDec es) h
theorem sB_yes {es:List N} (h:SRight es):sB es=true:=by unfold sB;exact @decide_eq_true _ (SRightDec es) h
theorem sB_iff {es:List N}:sB es=true↔SRight es:=by unfold sB;exact @decide_eq_true_iff _ (SRightDec es)
theorem SOk.zero (es:List N):SOk es 0:=fun i h=>absurd h (by omega)
theorem SOk.more {es:List N} {k:Nat} (h:SOk es k) (h1:lt (ahd es k) (es.getD k N.zero).i=true) (h2:lOk (es.getD k N.zero)=true):SOk es (k+1):=by
 intro i hi
 by_cases e:i=k
 ·subst e;exact ⟨h1,h2⟩
 ·exact h i (by omega)
theorem sB_false {es:List N} {k:Nat} (hk:k<es.length) (h:¬(lt (ahd es k) (es.getD k N.zero).i=true∧lOk (es.getD k N.zero)=true)):sB es=false:=sB_no (fun hr=>h (hr.2 k hk))
theorem sB_long {es:List N} (h:6<es.length):sB es=false:=sB_no (fun hr=>by have:=hr.1;omega)
theorem name_pos {s:ByteArray} (h:nameB s=true):1≤s.size:=by
 unfold nameB at h
 simp at h
 exact h.1
theorem three (b1 b2 b3:Bool):(b1=false)∨(b1=true∧b2=false)∨(b1=true∧b2=true∧b3=false)∨(b1=true∧b2=true∧b3=true):=by
 cases b1<;>cases b2<;>cases b3<;>simp
theorem num_cases (n:Int):(¬-1000000000000000≤n∧nOk n=false)∨(-1000000000000000≤n∧¬n≤1000000000000000∧nOk n=false)∨(-1000000000000000≤n∧n≤1000000000000000∧nOk n=true):=by
 unfold nOk
 rcases (show (¬-1000000000000000≤n)∨(-1000000000000000≤n∧¬n≤1000000000000000)∨(-1000000000000000≤n∧n≤1000000000000000) by omega) with h|⟨h,h2⟩|⟨h,h2⟩
 ·exact .inl ⟨h,decide_eq_false (fun q=>h q.1)⟩
 ·exact .inr (.inl ⟨h,h2,decide_eq_false (fun q=>h2 q.2)⟩)
 ·exact .inr (.inr ⟨h,h2,decide_eq_true ⟨h,h2⟩⟩)
theorem inum (n:Int) (w:World):Calls Tryz.prog 200 #[.int .i64 n] w fun e w'=>e=.returned (.bool (nOk n))∧w'=w:=by
 rcases num_cases n with ⟨h1,h2⟩|⟨h1,h3,h2⟩|⟨h1,h3,h2⟩
 all_goals
  rw [h2]
  clear h2
  go_enter Tryz.func200,Tryz.ntmps200
  go_wp2_with (go_at_call 30;go_in)
  go_ret
  exact ⟨rfl,rfl⟩
theorem snum (n:Int) (w:World):Calls Tryz.prog 153 #[.int .i64 n] w fun e w'=>e=.returned (.bool (nOk n))∧w'=w:=by
 rcases num_cases n with ⟨h1,h2⟩|⟨h1,h3,h2⟩|⟨h1,h3,h2⟩
 all_goals
  rw [h2]
  clear h2
  go_enter Tryz.func153,Tryz.ntmps153
  go_wp2_with (go_at_call 63;go_in)
  go_ret
  exact ⟨rfl,rfl⟩
theorem bdrewN {B:Nat} {a w:World} (h:Below B a w) (n:Nat):Below B a (w.drewN n):=⟨h.os,h.tape,h.output,h.size,h.block⟩
theorem le_ge1 {x a:ByteArray} (h:Op.bytesLess x.toList a.toList=true):Op.bytesLess a.toList x.toList=false:=lt_asymm h
theorem le_cases (x a:ByteArray):(Op.bytesLess x.toList a.toList=true∧lt a x=false)∨(Op.bytesLess x.toList a.toList=false∧x.toList=a.toList∧(x.toList==a.toList)=true∧lt a x=false)∨(Op.bytesLess x.toList a.toList=false∧x.toList≠a.toList∧(x.toList==a.toList)=false∧lt a x=true):=by
 cases h:lt x a
 ·by_cases e:x=a
  ·subst e;exact .inr (.inl ⟨h,rfl,by simp,h⟩)
  ·have ne:x.toList≠a.toList:=fun q=>e (toList_inj q)
   refine .inr (.inr ⟨h,ne,by simpa using ne,?_⟩)
   cases h2:lt a x
   ·exact absurd (lt_total h h2) e
   ·rfl
 ·exact .inl ⟨h,lt_asymm h⟩
theorem nil_cases (n:Int):((n==0)=true∧decide (n≠0)=false)∨((n==0)=false∧decide (n≠0)=true):=by
 by_cases h:n=0
 ·exact .inl ⟨by simpa using h,by simpa using h⟩
 ·exact .inr ⟨by simpa using h,by simpa using h⟩
set_option maxRecDepth 100000 in
set_option maxHeartbeats 4000000 in
theorem impl_lines (ao:Option Addr) (cap:Nat) (es:List N) (w:World) (hlen:es.length≤1048576) (hS:∀e∈es,e.i.size≤1048576) (hI:Lis ao es w) :
 Calls Tryz.prog 199 #[.slice ao es.length cap] w fun e w'=>e=.returned (.bool (sB es))∧Below w.heap.size w w':=by
 by_cases h40:6<es.length
 ·have HR:=H_ (sB_long h40)
  obtain ⟨len,hl⟩:∃len,len=es.length:=⟨_,rfl⟩
  rw [←hl] at hlen h40 ⊢
  have h40':(6:Int)<(len:Int):=by omega
  clear hI hS hl
  go_enter Tryz.func199,Tryz.ntmps199
  go_wp2_with fail
  go_ret
  exact ⟨ret_bool HR.out.symm,Below.refl _ _⟩
 ·have HT0:=H_ (fun k (hk:k<es.length)=>sB_false (es:=es) hk)
  have HTE:=H_ (fun h=>sB_yes (es:=es) ⟨by omega,h⟩)
  have HI:=H_ hI
  have HS:=H_ hS
  obtain ⟨len,hl⟩:∃len,len=es.length:=⟨_,rfl⟩
  rw [←hl] at hlen h40 ⊢
  have HL:=H_ hl
  have h40':¬(6:Int)<(len:Int):=by omega
  clear hI hS hl
  generalize sB es=R at *
  go_enter Tryz.func199,Tryz.ntmps199
  go_wp2_with fail
  go_loopw [3,11] (fun x z wr=>∃k:Nat,k≤len∧x=.string (ahd es k)∧z=.int .i64 k∧Hid (SOk es k)∧Hid (Below w.heap.size w wr)) (fun x z _=>len-(intOf z).toNat)
  case atStart=>exact ⟨0,by omega,rfl,rfl,H_ (SOk.zero es),H_ (Below.refl _ _)⟩
  case round =>
   obtain ⟨k,hk,rfl,rfl,HK,HB⟩:=hrel
   by_cases hlt:k<len
   ·have hlt2:(k:Int)<(len:Int):=by omega
    obtain ⟨b,off,rfl,hbl,c0,c1⟩:=(HI.out.below HB.out).at k (by have:=HL.out;omega)
    have hsz:=HS.out _ (getD_mem (z:=N.zero) es k (by have:=HL.out;omega))
    have HM:=H_ (fun h1 h2=>HK.out.more (k:=k) h1 h2)
    have HF:=H_ (HT0.out k (by have:=HL.out;omega))
    have HA:Hid (ahd es (k+1)=(es.getD k N.zero).i):=rfl
    generalize ahd es k=a at *
    generalize es.getD k N.zero=X at *
    obtain ⟨xi,xn⟩:=X
    have HA:Hid (ahd es (k+1)=xi):=HA
    have H1:=H_ (fun w=>NameR.impl_any xi w hsz)
    have H2:=H_ (fun w=>inum xn w)
    have HE:Hid (lOk ⟨xi,xn⟩=(nameB xi&&(nOk xn&&decide (xn≠0)))):=rfl
    dsimp only at HM HF c0 c1
    generalize lOk ⟨xi,xn⟩=r at *
    have HAl:=H_ (fun o=>HB.out.alloc HB.out.size o)
    rcases le_cases xi a with ⟨q1,q2⟩|⟨q1,q3,q4,q2⟩|⟨q1,q3,q4,q2⟩
    ·have HR:Hid (R=false):=H_ (HF.out (fun h=>by rw [q2] at h;exact absurd h.1 (by simp)))
     clear HM HF q2
     go_wp2_with fail
     go_ret
     exact ⟨ret_bool HR.out.symm,HAl.out _⟩
    ·have HR:Hid (R=false):=H_ (HF.out (fun h=>by rw [q2] at h;exact absurd h.1 (by simp)))
     clear HM HF q2
     go_wp2_with fail
     go_ret
     exact ⟨ret_bool HR.out.symm,HAl.out _⟩
    ·generalize nameB xi=b1 at *
     generalize nOk xn=b2 at *
     have hz:=nil_cases xn
     generalize decide (xn≠0)=b3 at *
     cases b1
     ·have HR:Hid (R=false):=H_ (HF.out (fun h=>by rw [HE.out] at h;exact absurd h.2 (by simp)))
      clear HM HF q2 HE hz
      go_wp2_with (go_at_call 166;refine (H1.out _).mono ?_;rintro e w1 ⟨rfl,rfl⟩)
      go_ret
      exact ⟨ret_bool HR.out.symm,HAl.out _⟩
     rcases hz with ⟨hz,rfl⟩|⟨hz,rfl⟩
     ·have HR:Hid (R=false):=H_ (HF.out (fun h=>by rw [HE.out] at h;exact absurd h.2 (by simp)))
      clear HM HF q2 HE
      go_wp2_with (go_at_call 166;refine (H1.out _).mono ?_;rintro e w1 ⟨rfl,rfl⟩)
      go_ret
      exact ⟨ret_bool HR.out.symm,HAl.out _⟩
     cases b2
     ·have HR:Hid (R=false):=H_ (HF.out (fun h=>by rw [HE.out] at h;exact absurd h.2 (by simp)))
      clear HM HF q2 HE
      go_wp2_with (first|(go_at_call 166;refine (H1.out _).mono ?_;rintro e w1 ⟨rfl,rfl⟩)|(go_at_call 200;refine (H2.out _).mono ?_;rintro e w1 ⟨rfl,rfl⟩))
      go_ret
      exact ⟨ret_bool HR.out.symm,HAl.out _⟩
     ·replace HM:=H_ (HM.out q2 (by rw [HE.out];rfl))
      clear HF q2 HE
      go_wp2_with (first|(go_at_call 166;refine (H1.out _).mono ?_;rintro e w1 ⟨rfl,rfl⟩)|(go_at_call 200;refine (H2.out _).mono ?_;rintro e w1 ⟨rfl,rfl⟩))
      go_roundw
      case rel=>exact ⟨k+1,by omega,by rw [HA.out],by go_num,HM,H_ (HAl.out _)⟩
      case measure=>simp [intOf];omega
   ·have hlt2:¬(k:Int)<(len:Int):=by omega
    obtain rfl:k=len:=by omega
    have HR:Hid (R=true):=H_ (HTE.out (by rw [←HL.out];exact HK.out))
    go_wp2_with fail
    go_ret
    exact ⟨ret_bool HR.out.symm,HB.out⟩
set_option maxRecDepth 100000 in
set_option maxHeartbeats 4000000 in
theorem spec_lines (ao:Option Addr) (cap:Nat) (es:List N) (w:World) (hlen:es.length≤1048576) (hS:∀e∈es,e.i.size≤1048576) (hI:Lis ao es w) :
 Calls Tryz.prog 152 #[.slice ao es.length cap] w fun e w'=>e=.returned (.bool (sB es))∧Below w.heap.size w w':=by
 have HT0:=H_ (fun k (hk:k<es.length)=>sB_false (es:=es) hk)
 have HTE:Hid (SOk es es.length→sB es=decide (es.length≤6)):=H_ (fun h=>by
  by_cases e:es.length≤6
  ·rw [decide_eq_true e];exact sB_yes ⟨e,h⟩
  ·rw [decide_eq_false e];exact sB_no (fun hr=>e hr.1))
 have HI:=H_ hI
 have HS:=H_ hS
 obtain ⟨len,hl⟩:∃len,len=es.length:=⟨_,rfl⟩
 rw [←hl] at hlen ⊢
 have HL:=H_ hl
 clear hI hS hl
 generalize sB es=R at *
 go_enter Tryz.func152,Tryz.ntmps152
 go_wp2_with fail
 go_loopw [3] (fun z wr=>∃k:Nat,k≤len∧z=.int .i64 k∧Hid (SOk es k)∧Hid (Below w.heap.size w wr)) (fun z _=>len-(intOf z).toNat)
 case atStart=>exact ⟨0,by omega,rfl,H_ (SOk.zero es),H_ (Below.refl _ _)⟩
 case round =>
  obtain ⟨k,hk,rfl,HK,HB⟩:=hrel
  by_cases hlt:k<len
  ·have hlt2:(k:Int)<(len:Int):=by omega
   obtain ⟨b,off,rfl,hbl,c0,c1⟩:=(HI.out.below HB.out).at k (by have:=HL.out;omega)
   have hsz:=HS.out _ (getD_mem (z:=N.zero) es k (by have:=HL.out;omega))
   have HM:=H_ (fun h1 h2=>HK.out.more (k:=k) h1 h2)
   have HF:=H_ (HT0.out k (by have:=HL.out;omega))
   rcases (show k=0∨∃j,k=j+1 from by rcases k with _|j;exact .inl rfl;exact .inr ⟨j,rfl⟩) with rfl|⟨j,hkj⟩
   ·have HA:Hid (ahd es 0=⟨#[]⟩):=rfl
    simp only [Nat.zero_mul,Nat.add_zero] at c0 c1
    generalize ahd es 0=a at *
    generalize es.getD 0 N.zero=X at *
    obtain ⟨xi,xn⟩:=X
    have H1:=H_ (fun w=>NameR.spec_any xi w hsz)
    have H2:=H_ (fun w=>snum xn w)
    have HP:=H_ (name_pos (s:=xi))
    have HE:Hid (lOk ⟨xi,xn⟩=(nameB xi&&(nOk xn&&decide (xn≠0)))):=rfl
    dsimp only at HM HF c0 c1 hsz
    generalize lOk ⟨xi,xn⟩=r at *
    generalize nameB xi=b1 at *
    generalize nOk xn=b2 at *
    have hz:=nil_cases xn
    generalize decide (xn≠0)=b3 at *
    cases b1
    ·clear hz
     have HR:Hid (R=false):=H_ (HF.out (fun h=>by rw [HE.out] at h;exact absurd h.2 (by simp)))
     clear HM HF HP HE
     go_wp2_with fail
     go_quiet ((first|(go_at_call 104;exact Calls.quiet_of_same (H1.out _))|(go_at_call 153;exact Calls.quiet_of_same (H2.out _))))
     go_wp2_with fail
     go_ret
     exact ⟨ret_bool HR.out.symm,bdrewN HB.out _⟩
    cases b2
    ·clear hz
     have HR:Hid (R=false):=H_ (HF.out (fun h=>by rw [HE.out] at h;exact absurd h.2 (by simp)))
     clear HM HF HP HE
     go_wp2_with fail
     go_quiet ((first|(go_at_call 104;exact Calls.quiet_of_same (H1.out _))|(go_at_call 153;exact Calls.quiet_of_same (H2.out _))))
     go_wp2_with fail
     go_ret
     exact ⟨ret_bool HR.out.symm,bdrewN HB.out _⟩
    rcases hz with ⟨hz,rfl⟩|⟨hz,rfl⟩
    ·skip
     have HR:Hid (R=false):=H_ (HF.out (fun h=>by rw [HE.out] at h;exact absurd h.2 (by simp)))
     clear HM HF HP HE
     go_wp2_with fail
     go_quiet ((first|(go_at_call 104;exact Calls.quiet_of_same (H1.out _))|(go_at_call 153;exact Calls.quiet_of_same (H2.out _))))
     go_wp2_with fail
     go_ret
     exact ⟨ret_bool HR.out.symm,bdrewN HB.out _⟩
    ·skip
     have HM2:=H_ (HM.out (by rw [HA.out];exact lt_empty (HP.out rfl)) (by rw [HE.out];rfl))
     clear HM HF HP HE
     go_wp2_with fail
     go_quiet ((first|(go_at_call 104;exact Calls.quiet_of_same (H1.out _))|(go_at_call 153;exact Calls.quiet_of_same (H2.out _))))
     go_wp2_with fail
     go_roundw
     case rel=>exact ⟨0+1,by omega,by go_num,HM2,H_ (bdrewN HB.out _)⟩
     case measure=>simp [intOf];omega
   ·obtain ⟨b',off',hbo,hbl',d0,d1⟩:=(HI.out.below HB.out).at j (by have:=HL.out;omega)
    obtain ⟨rfl,rfl⟩:b=b'∧off=off':=by simpa using hbo
    have HA:Hid (ahd es k=(es.getD j N.zero).i):=H_ (by rw [hkj];rfl)
    generalize es.getD j N.zero=Y at *
    obtain ⟨yi,yn⟩:=Y
    have HA:Hid (ahd es k=yi):=HA
    clear d1 hbl' hbo
    generalize ahd es k=a at *
    generalize es.getD k N.zero=X at *
    obtain ⟨xi,xn⟩:=X
    have H1:=H_ (fun w=>NameR.spec_any xi w hsz)
    have H2:=H_ (fun w=>snum xn w)
    have HE:Hid (lOk ⟨xi,xn⟩=(nameB xi&&(nOk xn&&decide (xn≠0)))):=rfl
    dsimp only at HM HF c0 c1 d0 hsz
    generalize lOk ⟨xi,xn⟩=r at *
    generalize nameB xi=b1 at *
    generalize nOk xn=b2 at *
    have hz:=nil_cases xn
    generalize decide (xn≠0)=b3 at *
    have hj1:IntKind.i64.wrap ((k:Int)-1)=(j:Int):=by rw [IntKind.wrap_i64];omega
    have hj2:0<k:=by omega
    have hj3:(j:Int)<(len:Int):=by omega
    clear hkj
    cases b1
    ·clear hz
     have HR:Hid (R=false):=H_ (HF.out (fun h=>by rw [HE.out] at h;exact absurd h.2 (by simp)))
     clear HM HF HE
     go_wp2_with fail
     go_quiet ((first|(go_at_call 104;exact Calls.quiet_of_same (H1.out _))|(go_at_call 153;exact Calls.quiet_of_same (H2.out _))))
     go_wp2_with fail
     go_ret
     exact ⟨ret_bool HR.out.symm,bdrewN HB.out _⟩
    rcases le_cases xi yi with ⟨q1,q2⟩|⟨q1,q3,q4,q2⟩|⟨q1,q3,q4,q2⟩
    ·clear hz
     have HR:Hid (R=false):=H_ (HF.out (fun h=>by rw [HA.out,q2] at h;exact absurd h.1 (by simp)))
     have q5:=le_ge1 q1
     clear HM HF HE q2
     go_wp2_with fail
     go_quiet ((first|(go_at_call 104;exact Calls.quiet_of_same (H1.out _))|(go_at_call 153;exact Calls.quiet_of_same (H2.out _))))
     go_wp2_with fail
     go_ret
     exact ⟨ret_bool HR.out.symm,bdrewN HB.out _⟩
    ·clear hz
     have HR:Hid (R=false):=H_ (HF.out (fun h=>by rw [HA.out,q2] at h;exact absurd h.1 (by simp)))
     obtain rfl:=toList_inj q3
     have q5:Op.bytesLess xi.toList xi.toList=false:=q1
     clear HM HF HE q2 q3 q4
     go_wp2_with fail
     go_quiet ((first|(go_at_call 104;exact Calls.quiet_of_same (H1.out _))|(go_at_call 153;exact Calls.quiet_of_same (H2.out _))))
     go_wp2_with fail
     go_ret
     exact ⟨ret_bool HR.out.symm,bdrewN HB.out _⟩
    have q5:Op.bytesLess yi.toList xi.toList=true:=q2
    cases b2
    ·clear hz
     have HR:Hid (R=false):=H_ (HF.out (fun h=>by rw [HE.out] at h;exact absurd h.2 (by simp)))
     clear HM HF HE q2
     go_wp2_with fail
     go_quiet ((first|(go_at_call 104;exact Calls.quiet_of_same (H1.out _))|(go_at_call 153;exact Calls.quiet_of_same (H2.out _))))
     go_wp2_with fail
     go_ret
     exact ⟨ret_bool HR.out.symm,bdrewN HB.out _⟩
    rcases hz with ⟨hz,rfl⟩|⟨hz,rfl⟩
    ·skip
     have HR:Hid (R=false):=H_ (HF.out (fun h=>by rw [HE.out] at h;exact absurd h.2 (by simp)))
     clear HM HF HE q2
     go_wp2_with fail
     go_quiet ((first|(go_at_call 104;exact Calls.quiet_of_same (H1.out _))|(go_at_call 153;exact Calls.quiet_of_same (H2.out _))))
     go_wp2_with fail
     go_ret
     exact ⟨ret_bool HR.out.symm,bdrewN HB.out _⟩
    ·skip
     have HM2:=H_ (HM.out (by rw [HA.out];exact q2) (by rw [HE.out];rfl))
     clear HM HF HE q2
     go_wp2_with fail
     go_quiet ((first|(go_at_call 104;exact Calls.quiet_of_same (H1.out _))|(go_at_call 153;exact Calls.quiet_of_same (H2.out _))))
     go_wp2_with fail
     go_roundw
     case rel=>exact ⟨k+1,by omega,by go_num,HM2,H_ (bdrewN HB.out _)⟩
     case measure=>simp [intOf];omega
  ·have hlt2:¬(k:Int)<(len:Int):=by omega
   obtain rfl:k=len:=by omega
   have HR:Hid (R=decide (k≤6)):=H_ (by have e:=HL.out;have h:=HTE.out;rw [←e] at h;exact h HK.out)
   by_cases h40:k≤6
   ·have h40':(k:Int)≤6:=by omega
    rw [decide_eq_true h40] at HR
    go_wp2_with fail
    go_ret
    exact ⟨ret_bool HR.out.symm,HB.out⟩
   ·have h40':¬(k:Int)≤6:=by omega
    rw [decide_eq_false h40] at HR
    go_wp2_with fail
    go_ret
    exact ⟨ret_bool HR.out.symm,HB.out⟩
end LinR
end Go.Proofs.YtnceeaccbcfopaaGreatDoor
