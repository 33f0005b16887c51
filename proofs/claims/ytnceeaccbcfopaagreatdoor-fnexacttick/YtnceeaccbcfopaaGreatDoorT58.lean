/-
  What right entries are: both sides say the same. The condition: at most 1048576 entries, whose Ids have at most 1048576 bytes.
-/
import Derived.Deep.RegionHeld3
import Derived.BigQuiet
import Derived.Deep.QuietTactic
import Derived.Test.YtnceeaccbcfopaaGreatDoorT57
namespace Go.Proofs.YtnceeaccbcfopaaGreatDoor
open Go.ChangeShapes Go.WideShapes Go.ChangeAt Go.RowKit
set_option linter.unusedVariables false
namespace SeenR
open RowG WordR LtR
open EvtR (idB within_any minute_any is_any sminute_any impl_id empty_of full_of)
def eOk (x:N):Bool:=idB x.i&&(decide (0≤x.n∧x.n≤121000000)&&decide (0≤x.s∧x.s≤4294967295))
def ahd (es:List N):Nat→ByteArray
 | 0=>⟨#[]⟩
 | k+1=>(es.getD k N.zero).i
def SOk (es:List N) (k:Nat):Prop:=∀i,i<k→lt (ahd es i) (es.getD i N.zero).i=true∧eOk (es.getD i N.zero)=true
def SRight (es:List N):Prop:=es.length≤40∧SOk es es.length
def SOkDec (es:List N) (k:Nat):Decidable (SOk es k):=inferInstanceAs (Decidable (∀i,i<k→lt (ahd es i) (es.getD i N.zero).i=true∧eOk (es.getD i N.zero)=true))
def SRightDec (es:List N):Decidable (SRight es) :=
 haveI:=SOkDec es es.length
 inferInstanceAs (Decidable (es.length≤40∧SOk es es.length))
def sB (es:List N):Bool:=@decide (SRight es) (SRightDec es)
theorem sB_no {es:List N} (h:¬SRight es):sB es=false:=by unfold sB;exact @decide_eq_false _ (SRightDec es) h
theorem sB_yes {es:List N} (h:SRight es):sB es=true:=by unfold sB;exact @decide_eq_true _ (SRightDec es) h
theorem sB_iff {es:List N}:sB es=true↔SRight es:=by unfold sB;exact @decide_eq_true_iff _ (SRightDec es)
theorem SOk.zero (es:List N):SOk es 0:=fun i h=>absurd h (by omega)
theorem SOk.more {es:List N} {k:Nat} (h:SOk es k) (h1:lt (ahd es k) (es.getD k N.zero).i=true) (h2:eOk (es.getD k N.zero)=true):SOk es (k+1):=by
 intro i hi
 by_cases e:i=k
 ·subst e;exact ⟨h1,h2⟩
 ·exact h i (by omega)
theorem sB_false {es:List N} {k:Nat} (hk:k<es.length) (h:¬(lt (ahd es k) (es.getD k N.zero).i=true∧eOk (es.getD k N.zero)=true)):sB es=false:=sB_no (fun hr=>h (hr.2 k hk))
theorem sB_long {es:List N} (h:40<es.length):sB es=false:=sB_no (fun hr=>by have:=hr.1;omega)
theorem id_pos {s:ByteArray} (h:idB s=true):1≤s.size:=by
 unfold idB at h
 simp at h
 exact h.1.1
theorem three (b1 b2 b3:Bool):(b1=false)∨(b1=true∧b2=false)∨(b1=true∧b2=true∧b3=false)∨(b1=true∧b2=true∧b3=true):=by
 cases b1<;>cases b2<;>cases b3<;>simp
theorem impl_entry (i:ByteArray) (n s:Int) (w:World) (hs:i.size≤1048576):Calls Tryz.prog 173 #[.agg #[.string i,.int .i64 n,.int .i64 s]] w fun e w'=>e=.returned (.bool (eOk ⟨i,n,s⟩))∧Below w.heap.size w w':=by
 have H1:=H_ (fun w=>impl_id i w hs)
 have H2:=H_ (fun w=>minute_any n w)
 have H3:=H_ (fun w=>within_any s 0 4294967295 w)
 unfold eOk
 dsimp only
 generalize idB i=b1 at *
 generalize decide (0≤n∧n≤121000000)=b2 at *
 generalize decide (0≤s∧s≤4294967295)=b3 at *
 rcases three b1 b2 b3 with rfl|⟨rfl,rfl⟩|⟨rfl,rfl,rfl⟩|⟨rfl,rfl,rfl⟩
 all_goals
  go_enter Tryz.func173,Tryz.ntmps173
  go_wp2_with (first|(go_at_call 204;refine (H1.out _).mono ?_;rintro e w1 ⟨rfl,hb1⟩;obtain ⟨hc,hz⟩:=bcell hb1)|(go_at_call 122;refine (H2.out _).mono ?_;rintro e w' ⟨rfl,rfl⟩)|(go_at_call 30;refine (H3.out _).mono ?_;rintro e w' ⟨rfl,rfl⟩))
  go_ret
  exact ⟨rfl,bel_alloc hb1⟩
theorem bdrewN {B:Nat} {a w:World} (h:Below B a w) (n:Nat):Below B a (w.drewN n):=⟨h.os,h.tape,h.output,h.size,h.block⟩
theorem le_ge1 {x a:ByteArray} (h:Op.bytesLess x.toList a.toList=true):Op.bytesLess a.toList x.toList=false:=lt_asymm h
theorem le_cases (x a:ByteArray):(Op.bytesLess x.toList a.toList=true∧lt a x=false)∨(Op.bytesLess x.toList a.toList=false∧x.toList=a.toList∧(x.toList==a.toList)=true∧lt a x=false)∨(Op.bytesLess x.toList a.toList=false∧x.toList≠a.toList∧(x.toList==a.toList)=false∧lt a x=true):=by
 cases h:lt x a
 ·by_cases e:x=a
  ·subst e;exact .inr (.inl ⟨h,rfl,by simp,h⟩)
  ·have ne:x.toList≠a.toList:=fun q=>e (toList_inj q)
   refine .inr (.inr ⟨h,ne,by simpa using ne,?_⟩)
   cases h2:lt a x
   ·exact absurd (lt_total h h2) e
   ·rfl
 ·exact .inl ⟨h,lt_asymm h⟩
set_option maxRecDepth 100000 in
set_option maxHeartbeats 4000000 in
theorem impl_seen (ao:Option Addr) (cap:Nat) (es:List N) (w:World) (hlen:es.length≤1048576) (hS:∀e∈es,e.i.size≤1048576) (hI:Ens ao es w) :
 Calls Tryz.prog 127 #[.slice ao es.length cap] w fun e w'=>e=.returned (.bool (sB es))∧Below w.heap.size w w':=by
 by_cases h40:40<es.length
 ·have HR:=H_ (sB_long h40)
  obtain ⟨len,hl⟩:∃len,len=es.length:=⟨_,rfl⟩
  rw [←hl] at hlen h40 ⊢
  have h40':(40:Int)<(len:Int):=by omega
  clear hI hS hl
  go_enter Tryz.func127,Tryz.ntmps127
  go_wp2_with fail
  go_ret
  exact ⟨ret_bool HR.out.symm,Below.refl _ _⟩
 ·have HT0:=H_ (fun k (hk:k<es.length)=>sB_false (es:=es) hk)
  have HTE:=H_ (fun h=>sB_yes (es:=es) ⟨by omega,h⟩)
  have HI:=H_ hI
  have HS:=H_ hS
  obtain ⟨len,hl⟩:∃len,len=es.length:=⟨_,rfl⟩
  rw [←hl] at hlen h40 ⊢
  have HL:=H_ hl
  have h40':¬(40:Int)<(len:Int):=by omega
  clear hI hS hl
  generalize sB es=R at *
  go_enter Tryz.func127,Tryz.ntmps127
  go_wp2_with fail
  go_loopw [3,11] (fun x z wr=>∃k:Nat,k≤len∧x=.string (ahd es k)∧z=.int .i64 k∧Hid (SOk es k)∧Hid (Below w.heap.size w wr)) (fun x z _=>len-(intOf z).toNat)
  case atStart=>exact ⟨0,by omega,rfl,rfl,H_ (SOk.zero es),H_ (Below.refl _ _)⟩
  case round =>
   obtain ⟨k,hk,rfl,rfl,HK,HB⟩:=hrel
   by_cases hlt:k<len
   ·have hlt2:(k:Int)<(len:Int):=by omega
    obtain ⟨b,off,rfl,hbl,c0,c1,c2⟩:=(HI.out.below HB.out).at k (by have:=HL.out;omega)
    have hsz:=HS.out _ (getD_mem (z:=N.zero) es k (by have:=HL.out;omega))
    have HM:=H_ (fun h1 h2=>HK.out.more (k:=k) h1 h2)
    have HF:=H_ (HT0.out k (by have:=HL.out;omega))
    have HA:Hid (ahd es (k+1)=(es.getD k N.zero).i):=rfl
    generalize ahd es k=a at *
    generalize es.getD k N.zero=X at *
    obtain ⟨xi,xn,xs⟩:=X
    have HA:Hid (ahd es (k+1)=xi):=HA
    have HC:=H_ (fun w=>impl_entry xi xn xs w hsz)
    dsimp only at HM HF c0 c1 c2
    generalize eOk ⟨xi,xn,xs⟩=r at *
    rcases le_cases xi a with ⟨q1,q2⟩|⟨q1,q3,q4,q2⟩|⟨q1,q3,q4,q2⟩
    ·have HR:Hid (R=false):=H_ (HF.out (fun h=>by rw [q2] at h;exact absurd h.1 (by simp)))
     clear HM HF q2
     go_wp2_with fail
     go_ret
     exact ⟨ret_bool HR.out.symm,HB.out.alloc HB.out.size _⟩
    ·have HR:Hid (R=false):=H_ (HF.out (fun h=>by rw [q2] at h;exact absurd h.1 (by simp)))
     clear HM HF q2
     go_wp2_with fail
     go_ret
     exact ⟨ret_bool HR.out.symm,HB.out.alloc HB.out.size _⟩
    ·cases r
     ·have HR:Hid (R=false):=H_ (HF.out (fun h=>absurd h.2 (by simp)))
      clear HM HF q2
      go_wp2_with (go_at_call 173;refine (HC.out _).mono ?_;rintro e w1 ⟨rfl,hb⟩)
      go_ret
      exact ⟨ret_bool HR.out.symm,HB.out.trans ((bel_alloc hb).mono HB.out.size)⟩
     ·replace HM:=H_ (HM.out q2 rfl)
      clear HF q2
      go_wp2_with fail
      refine (HC.out _).mono ?_
      rintro e w1 ⟨rfl,hb⟩
      obtain ⟨hcc,hff⟩:=bcell hb
      have hsz1:wr.heap.size<w1.heap.size:=by have:=hb.size;simp at this;omega
      have e0:=hcc wr.heap.size 0 (by simp)
      simp [go_sem] at e0
      have HB1:=H_ (HB.out.trans ((bel_alloc hb).mono HB.out.size))
      clear hb hcc hff c0 c1 c2
      go_wp2_with fail
      go_roundw
      case rel=>exact ⟨k+1,by omega,by rw [HA.out],by go_num,HM,HB1⟩
      case measure=>simp [intOf];omega
   ·have hlt2:¬(k:Int)<(len:Int):=by omega
    obtain rfl:k=len:=by omega
    have HR:Hid (R=true):=H_ (HTE.out (by rw [←HL.out];exact HK.out))
    go_wp2_with fail
    go_ret
    exact ⟨ret_bool HR.out.symm,HB.out⟩
set_option maxRecDepth 100000 in
set_option maxHeartbeats 4000000 in
theorem spec_seen (ao:Option Addr) (cap:Nat) (es:List N) (w:World) (hlen:es.length≤1048576) (hS:∀e∈es,e.i.size≤1048576) (hI:Ens ao es w) :
 Calls Tryz.prog 52 #[.slice ao es.length cap] w fun e w'=>e=.returned (.bool (sB es))∧Below w.heap.size w w':=by
 have HT0:=H_ (fun k (hk:k<es.length)=>sB_false (es:=es) hk)
 have HTE:Hid (SOk es es.length→sB es=decide (es.length≤40)):=H_ (fun h=>by
  by_cases e:es.length≤40
  ·rw [decide_eq_true e];exact sB_yes ⟨e,h⟩
  ·rw [decide_eq_false e];exact sB_no (fun hr=>e hr.1))
 have HI:=H_ hI
 have HS:=H_ hS
 obtain ⟨len,hl⟩:∃len,len=es.length:=⟨_,rfl⟩
 rw [←hl] at hlen ⊢
 have HL:=H_ hl
 clear hI hS hl
 generalize sB es=R at *
 go_enter Tryz.func52,Tryz.ntmps52
 go_wp2_with fail
 go_loopw [3] (fun z wr=>∃k:Nat,k≤len∧z=.int .i64 k∧Hid (SOk es k)∧Hid (Below w.heap.size w wr)) (fun z _=>len-(intOf z).toNat)
 case atStart=>exact ⟨0,by omega,rfl,H_ (SOk.zero es),H_ (Below.refl _ _)⟩
 case round =>
  obtain ⟨k,hk,rfl,HK,HB⟩:=hrel
  by_cases hlt:k<len
  ·have hlt2:(k:Int)<(len:Int):=by omega
   obtain ⟨b,off,rfl,hbl,c0,c1,c2⟩:=(HI.out.below HB.out).at k (by have:=HL.out;omega)
   have hsz:=HS.out _ (getD_mem (z:=N.zero) es k (by have:=HL.out;omega))
   have HM:=H_ (fun h1 h2=>HK.out.more (k:=k) h1 h2)
   have HF:=H_ (HT0.out k (by have:=HL.out;omega))
   rcases (show k=0∨∃j,k=j+1 from by rcases k with _|j;exact .inl rfl;exact .inr ⟨j,rfl⟩) with rfl|⟨j,hkj⟩
   ·have HA:Hid (ahd es 0=⟨#[]⟩):=rfl
    simp only [Nat.zero_mul,Nat.add_zero] at c0 c1 c2
    generalize ahd es 0=a at *
    generalize es.getD 0 N.zero=X at *
    obtain ⟨xi,xn,xs⟩:=X
    have H1:=H_ (fun w=>spec_word xi 20 w hsz)
    have H2:=H_ (fun w=>sminute_any xn w)
    have H3:=H_ (fun w=>is_any xs 0 4294967295 w)
    have HP:=H_ (id_pos (s:=xi))
    have HE:Hid (eOk ⟨xi,xn,xs⟩=(idB xi&&(decide (0≤xn∧xn≤121000000)&&decide (0≤xs∧xs≤4294967295)))):=rfl
    dsimp only at HM HF c0 c1 c2 hsz
    generalize eOk ⟨xi,xn,xs⟩=r at *
    by_cases hi:xi.size=0
    ·have he:=empty_of xi hi
     have HR:Hid (R=false):=H_ (HF.out (fun h=>by
      have e:=HE.out
      rw [show idB xi=false by unfold idB;simp [hi],Bool.false_and] at e
      rw [e] at h;exact absurd h.2 (by simp)))
     clear HM HF hi HP HE
     go_wp2_with fail
     go_quiet ((first|(go_at_call 105;exact Calls.quiet_of_same (H1.out _))|(go_at_call 21;exact Calls.quiet_of_same (H2.out _))|(go_at_call 63;exact Calls.quiet_of_same (H3.out _))))
     go_wp2_with fail
     go_ret
     exact ⟨ret_bool HR.out.symm,bdrewN (HB.out.alloc HB.out.size _) _⟩
    ·obtain ⟨he,he2⟩:=full_of xi hi
     rw [show (printB xi&&decide ((xi.size:Int)≤20))=idB xi by unfold idB;rw [Bool.and_comm];congr 1;exact decide_eq_decide.2 (by omega)] at H1
     generalize idB xi=b1 at *
     generalize decide (0≤xn∧xn≤121000000)=b2 at *
     generalize decide (0≤xs∧xs≤4294967295)=b3 at *
     rcases three b1 b2 b3 with rfl|⟨rfl,rfl⟩|⟨rfl,rfl,rfl⟩|⟨rfl,rfl,rfl⟩
     ·have HR:Hid (R=false):=H_ (HF.out (fun h=>by rw [HE.out] at h;exact absurd h.2 (by simp)))
      clear HM HF hi HP HE
      go_wp2_with fail
      go_quiet ((first|(go_at_call 105;exact Calls.quiet_of_same (H1.out _))|(go_at_call 21;exact Calls.quiet_of_same (H2.out _))|(go_at_call 63;exact Calls.quiet_of_same (H3.out _))))
      go_wp2_with fail
      go_ret
      exact ⟨ret_bool HR.out.symm,bdrewN (HB.out.alloc HB.out.size _) _⟩
     ·have HR:Hid (R=false):=H_ (HF.out (fun h=>by rw [HE.out] at h;exact absurd h.2 (by simp)))
      clear HM HF hi HP HE
      go_wp2_with fail
      go_quiet ((first|(go_at_call 105;exact Calls.quiet_of_same (H1.out _))|(go_at_call 21;exact Calls.quiet_of_same (H2.out _))|(go_at_call 63;exact Calls.quiet_of_same (H3.out _))))
      go_wp2_with fail
      go_ret
      exact ⟨ret_bool HR.out.symm,bdrewN (HB.out.alloc HB.out.size _) _⟩
     ·have HR:Hid (R=false):=H_ (HF.out (fun h=>by rw [HE.out] at h;exact absurd h.2 (by simp)))
      clear HM HF hi HP HE
      go_wp2_with fail
      go_quiet ((first|(go_at_call 105;exact Calls.quiet_of_same (H1.out _))|(go_at_call 21;exact Calls.quiet_of_same (H2.out _))|(go_at_call 63;exact Calls.quiet_of_same (H3.out _))))
      go_wp2_with fail
      go_ret
      exact ⟨ret_bool HR.out.symm,bdrewN (HB.out.alloc HB.out.size _) _⟩
     ·have HM2:=H_ (HM.out (by rw [HA.out];exact lt_empty (HP.out rfl)) (by rw [HE.out];rfl))
      clear HM HF hi HP HE
      go_wp2_with fail
      go_quiet ((first|(go_at_call 105;exact Calls.quiet_of_same (H1.out _))|(go_at_call 21;exact Calls.quiet_of_same (H2.out _))|(go_at_call 63;exact Calls.quiet_of_same (H3.out _))))
      go_wp2_with fail
      go_roundw
      case rel=>exact ⟨0+1,by omega,by go_num,HM2,H_ (bdrewN (HB.out.alloc HB.out.size _) _)⟩
      case measure=>simp [intOf];omega
   ·obtain ⟨b',off',hbo,hbl',d0,d1,d2⟩:=(HI.out.below HB.out).at j (by have:=HL.out;omega)
    obtain ⟨rfl,rfl⟩:b=b'∧off=off':=by simpa using hbo
    have HA:Hid (ahd es k=(es.getD j N.zero).i):=H_ (by rw [hkj];rfl)
    have hj1:IntKind.i64.wrap ((k:Int)-1)=(j:Int):=by rw [IntKind.wrap_i64];omega
    have hj2:0<k:=by omega
    have hj3:(j:Int)<(len:Int):=by omega
    clear hbl' hbo hkj
    generalize ahd es k=a at *
    generalize es.getD k N.zero=X at *
    generalize es.getD j N.zero=Y at *
    obtain ⟨xi,xn,xs⟩:=X
    obtain ⟨yi,yn,ys⟩:=Y
    have HA:Hid (a=yi):=HA
    have H1:=H_ (fun w=>spec_word xi 20 w hsz)
    have H2:=H_ (fun w=>sminute_any xn w)
    have H3:=H_ (fun w=>is_any xs 0 4294967295 w)
    have HE:Hid (eOk ⟨xi,xn,xs⟩=(idB xi&&(decide (0≤xn∧xn≤121000000)&&decide (0≤xs∧xs≤4294967295)))):=rfl
    dsimp only at HM HF c0 c1 c2 d0 d1 d2 hsz
    generalize eOk ⟨xi,xn,xs⟩=r at *
    by_cases hi:xi.size=0
    ·have he:=empty_of xi hi
     have HR:Hid (R=false):=H_ (HF.out (fun h=>by
      have e:=HE.out
      rw [show idB xi=false by unfold idB;simp [hi],Bool.false_and] at e
      rw [e] at h;exact absurd h.2 (by simp)))
     clear HM HF hi HE
     go_wp2_with fail
     go_quiet ((first|(go_at_call 105;exact Calls.quiet_of_same (H1.out _))|(go_at_call 21;exact Calls.quiet_of_same (H2.out _))|(go_at_call 63;exact Calls.quiet_of_same (H3.out _))))
     go_wp2_with fail
     go_ret
     exact ⟨ret_bool HR.out.symm,bdrewN (HB.out.alloc HB.out.size _) _⟩
    ·obtain ⟨he,he2⟩:=full_of xi hi
     rw [show (printB xi&&decide ((xi.size:Int)≤20))=idB xi by unfold idB;rw [Bool.and_comm];congr 1;exact decide_eq_decide.2 (by omega)] at H1
     generalize idB xi=b1 at *
     generalize decide (0≤xn∧xn≤121000000)=b2 at *
     generalize decide (0≤xs∧xs≤4294967295)=b3 at *
     cases b1
     ·have HR:Hid (R=false):=H_ (HF.out (fun h=>by rw [HE.out] at h;exact absurd h.2 (by simp)))
      clear HM HF hi HE
      go_wp2_with fail
      go_quiet ((first|(go_at_call 105;exact Calls.quiet_of_same (H1.out _))|(go_at_call 21;exact Calls.quiet_of_same (H2.out _))|(go_at_call 63;exact Calls.quiet_of_same (H3.out _))))
      go_wp2_with fail
      go_ret
      exact ⟨ret_bool HR.out.symm,bdrewN (HB.out.alloc HB.out.size _) _⟩
     ·rcases le_cases xi yi with ⟨q1,q2⟩|⟨q1,q3,q4,q2⟩|⟨q1,q3,q4,q2⟩
      ·have HR:Hid (R=false):=H_ (HF.out (fun h=>by rw [HA.out,q2] at h;exact absurd h.1 (by simp)))
       have q5:=le_ge1 q1
       clear HM HF hi HE q2
       go_wp2_with fail
       go_quiet ((first|(go_at_call 105;exact Calls.quiet_of_same (H1.out _))|(go_at_call 21;exact Calls.quiet_of_same (H2.out _))|(go_at_call 63;exact Calls.quiet_of_same (H3.out _))))
       go_wp2_with fail
       go_ret
       exact ⟨ret_bool HR.out.symm,bdrewN (HB.out.alloc HB.out.size _) _⟩
      ·have HR:Hid (R=false):=H_ (HF.out (fun h=>by rw [HA.out,q2] at h;exact absurd h.1 (by simp)))
       obtain rfl:=toList_inj q3
       have q5:Op.bytesLess xi.toList xi.toList=false:=q1
       clear HM HF hi HE q2 q3 q4
       go_wp2_with fail
       go_quiet ((first|(go_at_call 105;exact Calls.quiet_of_same (H1.out _))|(go_at_call 21;exact Calls.quiet_of_same (H2.out _))|(go_at_call 63;exact Calls.quiet_of_same (H3.out _))))
       go_wp2_with fail
       go_ret
       exact ⟨ret_bool HR.out.symm,bdrewN (HB.out.alloc HB.out.size _) _⟩
      ·cases b2
       ·have HR:Hid (R=false):=H_ (HF.out (fun h=>by rw [HE.out] at h;exact absurd h.2 (by simp)))
        have q5:Op.bytesLess yi.toList xi.toList=true:=q2
        clear HM HF hi HE q2
        go_wp2_with fail
        go_quiet ((first|(go_at_call 105;exact Calls.quiet_of_same (H1.out _))|(go_at_call 21;exact Calls.quiet_of_same (H2.out _))|(go_at_call 63;exact Calls.quiet_of_same (H3.out _))))
        go_wp2_with fail
        go_ret
        exact ⟨ret_bool HR.out.symm,bdrewN (HB.out.alloc HB.out.size _) _⟩
       ·cases b3
        ·have HR:Hid (R=false):=H_ (HF.out (fun h=>by rw [HE.out] at h;exact absurd h.2 (by simp)))
         have q5:Op.bytesLess yi.toList xi.toList=true:=q2
         clear HM HF hi HE q2
         go_wp2_with fail
         go_quiet ((first|(go_at_call 105;exact Calls.quiet_of_same (H1.out _))|(go_at_call 21;exact Calls.quiet_of_same (H2.out _))|(go_at_call 63;exact Calls.quiet_of_same (H3.out _))))
         go_wp2_with fail
         go_ret
         exact ⟨ret_bool HR.out.symm,bdrewN (HB.out.alloc HB.out.size _) _⟩
        ·have HM2:=H_ (HM.out (by rw [HA.out];exact q2) (by rw [HE.out];rfl))
         have q5:Op.bytesLess yi.toList xi.toList=true:=q2
         clear HM HF hi HE q2
         go_wp2_with fail
         go_quiet ((first|(go_at_call 105;exact Calls.quiet_of_same (H1.out _))|(go_at_call 21;exact Calls.quiet_of_same (H2.out _))|(go_at_call 63;exact Calls.quiet_of_same (H3.out _))))
         go_wp2_with fail
         go_roundw
         case rel=>exact ⟨k+1,by omega,by go_num,HM2,H_ (bdrewN (HB.out.alloc HB.out.size _) _)⟩
         case measure=>simp [intOf];omega
  ·have hlt2:¬(k:Int)<(len:Int):=by omega
   obtain rfl:k=len:=by omega
   have HR:Hid (R=decide (k≤40)):=H_ (by have e:=HL.out;have h:=HTE.out;rw [←e] at h;exact h HK.out)
   by_cases h40:k≤40
   ·have h40':(k:Int)≤40:=by omega
    rw [decide_eq_true h40] at HR
    go_wp2_with fail
    go_ret
    exact ⟨ret_bool HR.out.symm,HB.out⟩
   ·have h40':¬(k:Int)≤40:=by omega
    rw [decide_eq_false h40] at HR
    go_wp2_with fail
    go_ret
    exact ⟨ret_bool HR.out.symm,HB.out⟩
end SeenR
end Go.Proofs.YtnceeaccbcfopaaGreatDoor
