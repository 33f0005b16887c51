/-
  Lists of lines: what is read of a row of them, the law's own copies, and lists held against each other. The condition: at most 1048576 lines.
  The order of texts. No condition.
  What right lines are: both sides say the same. The condition: at most 1048576 lines, whose Meters have at most 1048576 bytes.
  strings.Clone: the same bytes come back; nothing that was there is written. The condition: the text has at most 2^48 bytes.
  Lines that are put together, and what is left of them behind a credit: both sides say the same. The condition: at most 1048576 lines, whose Meters have at most 1048576 bytes.
  A block of cells that stays. No condition.
  Blocks that may be written, and rows beside them. No condition.
  Cells of a block written one behind another. No condition.
  Memory of one's own that is kept while other memory grows or is written. No condition.
  Arithmetic alone: the first day of a month that is counted from January 1970, and which month a right date lies in. No condition.
-/
import Derived.Deep.RegionWith
import Derived.Deep.RegionHeld3
import Derived.BigQuiet
import Derived.Deep.QuietTactic
import Derived.Lib.Strings
import Derived.Lib.BufferWrite
import Derived.Lib.UnsafeStr
import Derived.Lib.Hide
import Derived.Laws.MakeOwn
import Derived.OwnWalk
import Derived.Test.YtcilbmhkhllmjaaGreatDoorF2
namespace Go.Proofs.YtcilbmhkhllmjaaGreatDoor
open Go.ChangeShapes Go.WideShapes Go.ChangeAt Go.RowKit
set_option linter.unusedVariables false
namespace LinR
open RowG
open EvtR (Pt)
structure N where
 i:ByteArray
 n:Int
def N.v (e:N):Value:=.agg #[.string e.i,.int .i64 e.n]
def N.zero:N:=⟨⟨#[]⟩,0⟩
def N.cells (e:N):List Value:=[.string e.i,.int .i64 e.n]
theorem N.len (e:N):e.cells.length=2:=rfl
def Lis (ao:Option Addr) (es:List N) (w:World):Prop:=Rws 2 N.cells N.zero ao es w
theorem Lis.below {ao:Option Addr} {es:List N} {w w':World} (h:Lis ao es w) (hb:Below w.heap.size w w'):Lis ao es w':=Rws.below h hb
theorem Lis.at {ao:Option Addr} {es:List N} {w:World} (h:Lis ao es w) (j:Nat) (hj:j<es.length):∃b off,ao=some ⟨b,off,none⟩∧b<w.heap.size∧w.cell? ⟨b,off+j*2,none⟩=some (.string (es.getD j N.zero).i)∧w.cell? ⟨b,off+j*2+1,none⟩=some (.int .i64 (es.getD j N.zero).n):=by
 obtain ⟨b,off,h1,h2,h3⟩:=Rws.at h j hj
 exact ⟨b,off,h1,h2,h3 0 (by omega),h3 1 (by omega)⟩
theorem infoN:(Tryz.prog.info? 58).map (fun i=>(i.zero,i.size,i.bytes))=some (some (.agg #[.string ⟨#[]⟩,.int .i64 0]),2,24):=by kernel_rfl
end LinR
end Go.Proofs.YtcilbmhkhllmjaaGreatDoor
namespace Go.Proofs.YtcilbmhkhllmjaaGreatDoor
open Go.RowKit
namespace LtR
open Op (bytesLess)
theorem bl_irrefl:∀x:List UInt8,bytesLess x x=false
 | []=>rfl
 | a::x=>by
  rw [bytesLess,bl_irrefl x]
  simp
theorem bl_trans:∀{x y z:List UInt8},bytesLess x y=true→bytesLess y z=true→bytesLess x z=true
 | _,[],_,h,_=>by simp [bytesLess] at h
 | _,_::_,[],_,h=>by simp [bytesLess] at h
 | [],_::_,_::_,_,_=>rfl
 | a::x,b::y,c::z,h1,h2=>by
  rw [bytesLess] at *
  simp only [Bool.or_eq_true,Bool.and_eq_true,decide_eq_true_eq,beq_iff_eq] at *
  rcases h1 with h1|⟨rfl,h1⟩
  ·rcases h2 with h2|⟨rfl,h2⟩
   ·exact .inl (UInt8.lt_trans h1 h2)
   ·exact .inl h1
  ·rcases h2 with h2|⟨rfl,h2⟩
   ·exact .inl h2
   ·exact .inr ⟨rfl,bl_trans h1 h2⟩
theorem bl_total:∀{x y:List UInt8},bytesLess x y=false→bytesLess y x=false→x=y
 | [],[],_,_=>rfl
 | [],_::_,h,_=>by simp [bytesLess] at h
 | _::_,[],_,h=>by simp [bytesLess] at h
 | a::x,b::y,h1,h2=>by
  rw [bytesLess] at *
  simp only [Bool.or_eq_false_iff,Bool.and_eq_false_iff,decide_eq_false_iff_not,beq_eq_false_iff_ne] at *
  have e:a=b:=by
   have p1:=h1.1
   have p2:=h2.1
   rw [UInt8.lt_iff_toNat_lt] at p1 p2
   exact UInt8.toNat.inj (by omega)
  subst e
  rw [bl_total (h1.2.resolve_left (fun h=>h rfl)) (h2.2.resolve_left (fun h=>h rfl))]
def lt (a b:ByteArray):Bool:=bytesLess a.toList b.toList
theorem toList_inj {a b:ByteArray} (h:a.toList=b.toList):a=b:=by
 rw [ByteArray.toList_eq,ByteArray.toList_eq] at h
 exact ByteArray.ext (Array.ext' h)
theorem lt_irrefl (a:ByteArray):lt a a=false:=bl_irrefl _
theorem lt_trans {a b c:ByteArray} (h1:lt a b=true) (h2:lt b c=true):lt a c=true:=bl_trans h1 h2
theorem lt_total {a b:ByteArray} (h1:lt a b=false) (h2:lt b a=false):a=b:=toList_inj (bl_total h1 h2)
theorem lt_asymm {a b:ByteArray} (h:lt a b=true):lt b a=false:=by
 cases h2:lt b a
 ·rfl
 ·have:=lt_trans h h2
  rw [lt_irrefl] at this
  cases this
theorem lt_empty {b:ByteArray} (h:1≤b.size):lt ⟨#[]⟩ b=true:=by
 unfold lt
 have h1:(⟨#[]⟩:ByteArray).toList=[]:=by rw [ByteArray.toList_eq]
 rw [h1]
 cases hb:b.toList with
 | nil =>
  rw [ByteArray.toList_eq] at hb
  have:b.data.toList.length=0:=by rw [hb];rfl
  have h2:b.data.toList.length=b.size:=rfl
  omega
 | cons x l=>rfl
end LtR
end Go.Proofs.YtcilbmhkhllmjaaGreatDoor
namespace Go.Proofs.YtcilbmhkhllmjaaGreatDoor
open Go.ChangeShapes Go.WideShapes Go.ChangeAt Go.RowKit
set_option linter.unusedVariables false
namespace LinR
open RowG LtR
open NameR (nameB)
def nOk (n:Int):Bool:=decide (-1000000000000000≤n∧n≤1000000000000000)
def lOk (x:N):Bool:=nameB x.i&&(nOk x.n&&decide (x.n≠0))
def ahd (es:List N):Nat→ByteArray
 | 0=>⟨#[]⟩
 | k+1=>(es.getD k N.zero).i
def SOk (es:List N) (k:Nat):Prop:=∀i,i<k→lt (ahd es i) (es.getD i N.zero).i=true∧lOk (es.getD i N.zero)=true
def SRight (es:List N):Prop:=es.length≤6∧SOk es es.length
def SOkDec (es:List N) (k:Nat):Decidable (SOk es k):=inferInstanceAs (Decidable (∀i,i<k→lt (ahd es i) (es.getD i N.zero).i=true∧lOk (es.getD i N.zero)=true))
def SRightDec (es:List N):Decidable (SRight es) :=
 haveI:=SOkDec es es.length
 inferInstanceAs (Decidable (es.length≤6∧SOk es es.length))
def sB (es:List N):Bool:=@decide (SRight es) (SRightDec es)
theorem sB_no {es:List N} (h:¬SRight es):sB es=false:=by unfold sB;exact @decide_eq_false _ (SRightDec es) h
theorem sB_yes {es:List N} (h:SRight es):sB es=true:=by unfold sB;exact @decide_eq_true _ (SRightDec es) h
theorem sB_iff {es:List N}:sB es=true↔SRight es:=by unfold sB;exact @decide_eq_true_iff _ (SRightDec es)
theorem SOk.zero (es:List N):SOk es 0:=fun i h=>absurd h (by omega)
theorem SOk.more {es:List N} {k:Nat} (h:SOk es k) (h1:lt (ahd es k) (es.getD k N.zero).i=true) (h2:lOk (es.getD k N.zero)=true):SOk es (k+1):=by
 intro i hi
 by_cases e:i=k
 ·subst e;exact ⟨h1,h2⟩
 ·exact h i (by omega)
theorem sB_false {es:List N} {k:Nat} (hk:k<es.length) (h:¬(lt (ahd es k) (es.getD k N.zero).i=true∧lOk (es.getD k N.zero)=true)):sB es=false:=sB_no (fun hr=>h (hr.2 k hk))
theorem sB_long {es:List N} (h:6<es.length):sB es=false:=sB_no (fun hr=>by have:=hr.1;omega)
theorem name_pos {s:ByteArray} (h:nameB s=true):1≤s.size:=by
 unfold nameB at h
 simp at h
 exact h.1
theorem three (b1 b2 b3:Bool):(b1=false)∨(b1=true∧b2=false)∨(b1=true∧b2=true∧b3=false)∨(b1=true∧b2=true∧b3=true):=by
 cases b1<;>cases b2<;>cases b3<;>simp
theorem num_cases (n:Int):(¬-1000000000000000≤n∧nOk n=false)∨(-1000000000000000≤n∧¬n≤1000000000000000∧nOk n=false)∨(-1000000000000000≤n∧n≤1000000000000000∧nOk n=true):=by
 unfold nOk
 rcases (show (¬-1000000000000000≤n)∨(-1000000000000000≤n∧¬n≤1000000000000000)∨(-1000000000000000≤n∧n≤1000000000000000) by omega) with h|⟨h,h2⟩|⟨h,h2⟩
 ·exact .inl ⟨h,decide_eq_false (fun q=>h q.1)⟩
 ·exact .inr (.inl ⟨h,h2,decide_eq_false (fun q=>h2 q.2)⟩)
 ·exact .inr (.inr ⟨h,h2,decide_eq_true ⟨h,h2⟩⟩)
theorem inum (n:Int) (w:World):Calls Tryz.prog 71 #[.int .i64 n] w fun e w'=>e=.returned (.bool (nOk n))∧w'=w:=by
 rcases num_cases n with ⟨h1,h2⟩|⟨h1,h3,h2⟩|⟨h1,h3,h2⟩
 all_goals
  rw [h2]
  clear h2
  go_enter Tryz.func71,Tryz.ntmps71
  go_wp2_with (go_at_call 66;go_in)
  go_ret
  exact ⟨rfl,rfl⟩
theorem snum (n:Int) (w:World):Calls Tryz.prog 72 #[.int .i64 n] w fun e w'=>e=.returned (.bool (nOk n))∧w'=w:=by
 rcases num_cases n with ⟨h1,h2⟩|⟨h1,h3,h2⟩|⟨h1,h3,h2⟩
 all_goals
  rw [h2]
  clear h2
  go_enter Tryz.func72,Tryz.ntmps72
  go_wp2_with (go_at_call 69;go_in)
  go_ret
  exact ⟨rfl,rfl⟩
theorem bdrewN {B:Nat} {a w:World} (h:Below B a w) (n:Nat):Below B a (w.drewN n):=⟨h.os,h.tape,h.output,h.size,h.block⟩
theorem le_ge1 {x a:ByteArray} (h:Op.bytesLess x.toList a.toList=true):Op.bytesLess a.toList x.toList=false:=lt_asymm h
theorem le_cases (x a:ByteArray):(Op.bytesLess x.toList a.toList=true∧lt a x=false)∨(Op.bytesLess x.toList a.toList=false∧x.toList=a.toList∧(x.toList==a.toList)=true∧lt a x=false)∨(Op.bytesLess x.toList a.toList=false∧x.toList≠a.toList∧(x.toList==a.toList)=false∧lt a x=true):=by
 cases h:lt x a
 ·by_cases e:x=a
  ·subst e;exact .inr (.inl ⟨h,rfl,by simp,h⟩)
  ·have ne:x.toList≠a.toList:=fun q=>e (toList_inj q)
   refine .inr (.inr ⟨h,ne,by simpa using ne,?_⟩)
   cases h2:lt a x
   ·exact absurd (lt_total h h2) e
   ·rfl
 ·exact .inl ⟨h,lt_asymm h⟩
theorem nil_cases (n:Int):((n==0)=true∧decide (n≠0)=false)∨((n==0)=false∧decide (n≠0)=true):=by
 by_cases h:n=0
 ·exact .inl ⟨by simpa using h,by simpa using h⟩
 ·exact .inr ⟨by simpa using h,by simpa using h⟩
set_option maxRecDepth 100000 in
set_option maxHeartbeats 4000000 in
theorem impl_lines (ao:Option Addr) (cap:Nat) (es:List N) (w:World) (hlen:es.length≤1048576) (hS:∀e∈es,e.i.size≤1048576) (hI:Lis ao es w) :
 Calls Tryz.prog 27 #[.slice ao es.length cap] w fun e w'=>e=.returned (.bool (sB es))∧Below w.heap.size w w':=by
 by_cases h40:6<es.length
 ·have HR:=H_ (sB_long h40)
  obtain ⟨len,hl⟩:∃len,len=es.length:=⟨_,rfl⟩
  rw [←hl] at hlen h40 ⊢
  have h40':(6:Int)<(len:Int):=by omega
  clear hI hS hl
  go_enter Tryz.func27,Tryz.ntmps27
  go_wp2_with fail
  go_ret
  exact ⟨ret_bool HR.out.symm,Below.refl _ _⟩
 ·have HT0:=H_ (fun k (hk:k<es.length)=>sB_false (es:=es) hk)
  have HTE:=H_ (fun h=>sB_yes (es:=es) ⟨by omega,h⟩)
  have HI:=H_ hI
  have HS:=H_ hS
  obtain ⟨len,hl⟩:∃len,len=es.length:=⟨_,rfl⟩
  rw [←hl] at hlen h40 ⊢
  have HL:=H_ hl
  have h40':¬(6:Int)<(len:Int):=by omega
  clear hI hS hl
  generalize sB es=R at *
  go_enter Tryz.func27,Tryz.ntmps27
  go_wp2_with fail
  go_loopw [3,11] (fun x z wr=>∃k:Nat,k≤len∧x=.string (ahd es k)∧z=.int .i64 k∧Hid (SOk es k)∧Hid (Below w.heap.size w wr)) (fun x z _=>len-(intOf z).toNat)
  case atStart=>exact ⟨0,by omega,rfl,rfl,H_ (SOk.zero es),H_ (Below.refl _ _)⟩
  case round =>
   obtain ⟨k,hk,rfl,rfl,HK,HB⟩:=hrel
   by_cases hlt:k<len
   ·have hlt2:(k:Int)<(len:Int):=by omega
    obtain ⟨b,off,rfl,hbl,c0,c1⟩:=(HI.out.below HB.out).at k (by have:=HL.out;omega)
    have hsz:=HS.out _ (getD_mem (z:=N.zero) es k (by have:=HL.out;omega))
    have HM:=H_ (fun h1 h2=>HK.out.more (k:=k) h1 h2)
    have HF:=H_ (HT0.out k (by have:=HL.out;omega))
    have HA:Hid (ahd es (k+1)=(es.getD k N.zero).i):=rfl
    generalize ahd es k=a at *
    generalize es.getD k N.zero=X at *
    obtain ⟨xi,xn⟩:=X
    have HA:Hid (ahd es (k+1)=xi):=HA
    have H1:=H_ (fun w=>NameR.impl_any xi w hsz)
    have H2:=H_ (fun w=>inum xn w)
    have HE:Hid (lOk ⟨xi,xn⟩=(nameB xi&&(nOk xn&&decide (xn≠0)))):=rfl
    dsimp only at HM HF c0 c1
    generalize lOk ⟨xi,xn⟩=r at *
    have HAl:=H_ (fun o=>HB.out.alloc HB.out.size o)
    rcases le_cases xi a with ⟨q1,q2⟩|⟨q1,q3,q4,q2⟩|⟨q1,q3,q4,q2⟩
    ·have HR:Hid (R=false):=H_ (HF.out (fun h=>by rw [q2] at h;exact absurd h.1 (by simp)))
     clear HM HF q2
     go_wp2_with fail
     go_ret
     exact ⟨ret_bool HR.out.symm,HAl.out _⟩
    ·have HR:Hid (R=false):=H_ (HF.out (fun h=>by rw [q2] at h;exact absurd h.1 (by simp)))
     clear HM HF q2
     go_wp2_with fail
     go_ret
     exact ⟨ret_bool HR.out.symm,HAl.out _⟩
    ·generalize nameB xi=b1 at *
     generalize nOk xn=b2 at *
     have hz:=nil_cases xn
     generalize decide (xn≠0)=b3 at *
     cases b1
     ·have HR:Hid (R=false):=H_ (HF.out (fun h=>by rw [HE.out] at h;exact absurd h.2 (by simp)))
      clear HM HF q2 HE hz
      go_wp2_with (go_at_call 42;refine (H1.out _).mono ?_;rintro e w1 ⟨rfl,rfl⟩)
      go_ret
      exact ⟨ret_bool HR.out.symm,HAl.out _⟩
     rcases hz with ⟨hz,rfl⟩|⟨hz,rfl⟩
     ·have HR:Hid (R=false):=H_ (HF.out (fun h=>by rw [HE.out] at h;exact absurd h.2 (by simp)))
      clear HM HF q2 HE
      go_wp2_with (go_at_call 42;refine (H1.out _).mono ?_;rintro e w1 ⟨rfl,rfl⟩)
      go_ret
      exact ⟨ret_bool HR.out.symm,HAl.out _⟩
     cases b2
     ·have HR:Hid (R=false):=H_ (HF.out (fun h=>by rw [HE.out] at h;exact absurd h.2 (by simp)))
      clear HM HF q2 HE
      go_wp2_with (first|(go_at_call 42;refine (H1.out _).mono ?_;rintro e w1 ⟨rfl,rfl⟩)|(go_at_call 71;refine (H2.out _).mono ?_;rintro e w1 ⟨rfl,rfl⟩))
      go_ret
      exact ⟨ret_bool HR.out.symm,HAl.out _⟩
     ·replace HM:=H_ (HM.out q2 (by rw [HE.out];rfl))
      clear HF q2 HE
      go_wp2_with (first|(go_at_call 42;refine (H1.out _).mono ?_;rintro e w1 ⟨rfl,rfl⟩)|(go_at_call 71;refine (H2.out _).mono ?_;rintro e w1 ⟨rfl,rfl⟩))
      go_roundw
      case rel=>exact ⟨k+1,by omega,by rw [HA.out],by go_num,HM,H_ (HAl.out _)⟩
      case measure=>simp [intOf];omega
   ·have hlt2:¬(k:Int)<(len:Int):=by omega
    obtain rfl:k=len:=by omega
    have HR:Hid (R=true):=H_ (HTE.out (by rw [←HL.out];exact HK.out))
    go_wp2_with fail
    go_ret
    exact ⟨ret_bool HR.out.symm,HB.out⟩
set_option maxRecDepth 100000 in
set_option maxHeartbeats 4000000 in
theorem spec_lines (ao:Option Addr) (cap:Nat) (es:List N) (w:World) (hlen:es.length≤1048576) (hS:∀e∈es,e.i.size≤1048576) (hI:Lis ao es w) :
 Calls Tryz.prog 28 #[.slice ao es.length cap] w fun e w'=>e=.returned (.bool (sB es))∧Below w.heap.size w w':=by
 have HT0:=H_ (fun k (hk:k<es.length)=>sB_false (es:=es) hk)
 have HTE:Hid (SOk es es.length→sB es=decide (es.length≤6)):=H_ (fun h=>by
  by_cases e:es.length≤6
  ·rw [decide_eq_true e];exact sB_yes ⟨e,h⟩
  ·rw [decide_eq_false e];exact sB_no (fun hr=>e hr.1))
 have HI:=H_ hI
 have HS:=H_ hS
 obtain ⟨len,hl⟩:∃len,len=es.length:=⟨_,rfl⟩
 rw [←hl] at hlen ⊢
 have HL:=H_ hl
 clear hI hS hl
 generalize sB es=R at *
 go_enter Tryz.func28,Tryz.ntmps28
 go_wp2_with fail
 go_loopw [3] (fun z wr=>∃k:Nat,k≤len∧z=.int .i64 k∧Hid (SOk es k)∧Hid (Below w.heap.size w wr)) (fun z _=>len-(intOf z).toNat)
 case atStart=>exact ⟨0,by omega,rfl,H_ (SOk.zero es),H_ (Below.refl _ _)⟩
 case round =>
  obtain ⟨k,hk,rfl,HK,HB⟩:=hrel
  by_cases hlt:k<len
  ·have hlt2:(k:Int)<(len:Int):=by omega
   obtain ⟨b,off,rfl,hbl,c0,c1⟩:=(HI.out.below HB.out).at k (by have:=HL.out;omega)
   have hsz:=HS.out _ (getD_mem (z:=N.zero) es k (by have:=HL.out;omega))
   have HM:=H_ (fun h1 h2=>HK.out.more (k:=k) h1 h2)
   have HF:=H_ (HT0.out k (by have:=HL.out;omega))
   rcases (show k=0∨∃j,k=j+1 from by rcases k with _|j;exact .inl rfl;exact .inr ⟨j,rfl⟩) with rfl|⟨j,hkj⟩
   ·have HA:Hid (ahd es 0=⟨#[]⟩):=rfl
    simp only [Nat.zero_mul,Nat.add_zero] at c0 c1
    generalize ahd es 0=a at *
    generalize es.getD 0 N.zero=X at *
    obtain ⟨xi,xn⟩:=X
    have H1:=H_ (fun w=>NameR.spec_any xi w hsz)
    have H2:=H_ (fun w=>snum xn w)
    have HP:=H_ (name_pos (s:=xi))
    have HE:Hid (lOk ⟨xi,xn⟩=(nameB xi&&(nOk xn&&decide (xn≠0)))):=rfl
    dsimp only at HM HF c0 c1 hsz
    generalize lOk ⟨xi,xn⟩=r at *
    generalize nameB xi=b1 at *
    generalize nOk xn=b2 at *
    have hz:=nil_cases xn
    generalize decide (xn≠0)=b3 at *
    cases b1
    ·clear hz
     have HR:Hid (R=false):=H_ (HF.out (fun h=>by rw [HE.out] at h;exact absurd h.2 (by simp)))
     clear HM HF HP HE
     go_wp2_with fail
     go_quiet ((first|(go_at_call 35;exact Calls.quiet_of_same (H1.out _))|(go_at_call 72;exact Calls.quiet_of_same (H2.out _))))
     go_wp2_with fail
     go_ret
     exact ⟨ret_bool HR.out.symm,bdrewN HB.out _⟩
    cases b2
    ·clear hz
     have HR:Hid (R=false):=H_ (HF.out (fun h=>by rw [HE.out] at h;exact absurd h.2 (by simp)))
     clear HM HF HP HE
     go_wp2_with fail
     go_quiet ((first|(go_at_call 35;exact Calls.quiet_of_same (H1.out _))|(go_at_call 72;exact Calls.quiet_of_same (H2.out _))))
     go_wp2_with fail
     go_ret
     exact ⟨ret_bool HR.out.symm,bdrewN HB.out _⟩
    rcases hz with ⟨hz,rfl⟩|⟨hz,rfl⟩
    ·skip
     have HR:Hid (R=false):=H_ (HF.out (fun h=>by rw [HE.out] at h;exact absurd h.2 (by simp)))
     clear HM HF HP HE
     go_wp2_with fail
     go_quiet ((first|(go_at_call 35;exact Calls.quiet_of_same (H1.out _))|(go_at_call 72;exact Calls.quiet_of_same (H2.out _))))
     go_wp2_with fail
     go_ret
     exact ⟨ret_bool HR.out.symm,bdrewN HB.out _⟩
    ·skip
     have HM2:=H_ (HM.out (by rw [HA.out];exact lt_empty (HP.out rfl)) (by rw [HE.out];rfl))
     clear HM HF HP HE
     go_wp2_with fail
     go_quiet ((first|(go_at_call 35;exact Calls.quiet_of_same (H1.out _))|(go_at_call 72;exact Calls.quiet_of_same (H2.out _))))
     go_wp2_with fail
     go_roundw
     case rel=>exact ⟨0+1,by omega,by go_num,HM2,H_ (bdrewN HB.out _)⟩
     case measure=>simp [intOf];omega
   ·obtain ⟨b',off',hbo,hbl',d0,d1⟩:=(HI.out.below HB.out).at j (by have:=HL.out;omega)
    obtain ⟨rfl,rfl⟩:b=b'∧off=off':=by simpa using hbo
    have HA:Hid (ahd es k=(es.getD j N.zero).i):=H_ (by rw [hkj];rfl)
    generalize es.getD j N.zero=Y at *
    obtain ⟨yi,yn⟩:=Y
    have HA:Hid (ahd es k=yi):=HA
    clear d1 hbl' hbo
    generalize ahd es k=a at *
    generalize es.getD k N.zero=X at *
    obtain ⟨xi,xn⟩:=X
    have H1:=H_ (fun w=>NameR.spec_any xi w hsz)
    have H2:=H_ (fun w=>snum xn w)
    have HE:Hid (lOk ⟨xi,xn⟩=(nameB xi&&(nOk xn&&decide (xn≠0)))):=rfl
    dsimp only at HM HF c0 c1 d0 hsz
    generalize lOk ⟨xi,xn⟩=r at *
    generalize nameB xi=b1 at *
    generalize nOk xn=b2 at *
    have hz:=nil_cases xn
    generalize decide (xn≠0)=b3 at *
    have hj1:IntKind.i64.wrap ((k:Int)-1)=(j:Int):=by rw [IntKind.wrap_i64];omega
    have hj2:0<k:=by omega
    have hj3:(j:Int)<(len:Int):=by omega
    clear hkj
    cases b1
    ·clear hz
     have HR:Hid (R=false):=H_ (HF.out (fun h=>by rw [HE.out] at h;exact absurd h.2 (by simp)))
     clear HM HF HE
     go_wp2_with fail
     go_quiet ((first|(go_at_call 35;exact Calls.quiet_of_same (H1.out _))|(go_at_call 72;exact Calls.quiet_of_same (H2.out _))))
     go_wp2_with fail
     go_ret
     exact ⟨ret_bool HR.out.symm,bdrewN HB.out _⟩
    rcases le_cases xi yi with ⟨q1,q2⟩|⟨q1,q3,q4,q2⟩|⟨q1,q3,q4,q2⟩
    ·clear hz
     have HR:Hid (R=false):=H_ (HF.out (fun h=>by rw [HA.out,q2] at h;exact absurd h.1 (by simp)))
     have q5:=le_ge1 q1
     clear HM HF HE q2
     go_wp2_with fail
     go_quiet ((first|(go_at_call 35;exact Calls.quiet_of_same (H1.out _))|(go_at_call 72;exact Calls.quiet_of_same (H2.out _))))
     go_wp2_with fail
     go_ret
     exact ⟨ret_bool HR.out.symm,bdrewN HB.out _⟩
    ·clear hz
     have HR:Hid (R=false):=H_ (HF.out (fun h=>by rw [HA.out,q2] at h;exact absurd h.1 (by simp)))
     obtain rfl:=toList_inj q3
     have q5:Op.bytesLess xi.toList xi.toList=false:=q1
     clear HM HF HE q2 q3 q4
     go_wp2_with fail
     go_quiet ((first|(go_at_call 35;exact Calls.quiet_of_same (H1.out _))|(go_at_call 72;exact Calls.quiet_of_same (H2.out _))))
     go_wp2_with fail
     go_ret
     exact ⟨ret_bool HR.out.symm,bdrewN HB.out _⟩
    have q5:Op.bytesLess yi.toList xi.toList=true:=q2
    cases b2
    ·clear hz
     have HR:Hid (R=false):=H_ (HF.out (fun h=>by rw [HE.out] at h;exact absurd h.2 (by simp)))
     clear HM HF HE q2
     go_wp2_with fail
     go_quiet ((first|(go_at_call 35;exact Calls.quiet_of_same (H1.out _))|(go_at_call 72;exact Calls.quiet_of_same (H2.out _))))
     go_wp2_with fail
     go_ret
     exact ⟨ret_bool HR.out.symm,bdrewN HB.out _⟩
    rcases hz with ⟨hz,rfl⟩|⟨hz,rfl⟩
    ·skip
     have HR:Hid (R=false):=H_ (HF.out (fun h=>by rw [HE.out] at h;exact absurd h.2 (by simp)))
     clear HM HF HE q2
     go_wp2_with fail
     go_quiet ((first|(go_at_call 35;exact Calls.quiet_of_same (H1.out _))|(go_at_call 72;exact Calls.quiet_of_same (H2.out _))))
     go_wp2_with fail
     go_ret
     exact ⟨ret_bool HR.out.symm,bdrewN HB.out _⟩
    ·skip
     have HM2:=H_ (HM.out (by rw [HA.out];exact q2) (by rw [HE.out];rfl))
     clear HM HF HE q2
     go_wp2_with fail
     go_quiet ((first|(go_at_call 35;exact Calls.quiet_of_same (H1.out _))|(go_at_call 72;exact Calls.quiet_of_same (H2.out _))))
     go_wp2_with fail
     go_roundw
     case rel=>exact ⟨k+1,by omega,by go_num,HM2,H_ (bdrewN HB.out _)⟩
     case measure=>simp [intOf];omega
  ·have hlt2:¬(k:Int)<(len:Int):=by omega
   obtain rfl:k=len:=by omega
   have HR:Hid (R=decide (k≤6)):=H_ (by have e:=HL.out;have h:=HTE.out;rw [←e] at h;exact h HK.out)
   by_cases h40:k≤6
   ·have h40':(k:Int)≤6:=by omega
    rw [decide_eq_true h40] at HR
    go_wp2_with fail
    go_ret
    exact ⟨ret_bool HR.out.symm,HB.out⟩
   ·have h40':¬(k:Int)≤6:=by omega
    rw [decide_eq_false h40] at HR
    go_wp2_with fail
    go_ret
    exact ⟨ret_bool HR.out.symm,HB.out⟩
end LinR
namespace CloneR
theorem H_ {p:Prop} (h:p):Hid p:=h
theorem info8:(Tryz.prog.info? 5).map (fun i=>(i.zero,i.size,i.bytes))=some (some (.int .u8 0),1,1):=by kernel_rfl
set_option maxHeartbeats 4000000 in
set_option maxRecDepth 100000 in
theorem lite_any (s:ByteArray) (w:World) (hlim:s.size≤281474976710656) :
 Calls Tryz.prog 138 #[.string s] w fun e w'=>e=.returned (.string s)∧Below w.heap.size w w':=by
 by_cases h0:s.size=0
 ·obtain rfl:s=⟨#[]⟩:=ByteArray.ext (Array.eq_empty_of_size_eq_zero h0)
  go_enter Tryz.func138,Tryz.ntmps138
  go_wp2
  go_ret
  exact ⟨rfl,Below.refl _ _⟩
 ·obtain ⟨i0,hi,hz0,hz1,hz2⟩:=info_parts info8
  have hone:(Tryz.prog.info? 5).map (·.size)=some 1:=by rw [hi];simp [hz1]
  have hcells:Tryz.prog.cellsOf 5=1:=by simp [Program.cellsOf,hi,hz1]
  obtain ⟨M,hM⟩:∃M,M=madeCells (Value.int .u8 0).cells (((s.size:Nat):Int).toNat*i0.size):=⟨_,rfl⟩
  have hMs:M.size=s.size:=by rw [hM,size_madeCells,hz1];simp
  have hmake:∀W:World,(Instr.makeSlice 47 (.int .i64 (s.size:Int)) (.int .i64 (s.size:Int))).run Tryz.prog W=.ok (.slice (some ⟨W.heap.size,0,none⟩) s.size s.size) (W.alloc (.cells M 5)):=fun W=>by
   have h:=run_make (P:=Tryz.prog) W 47 5 i0 (.int .u8 0) Tryz.underlying47 hi hz0 .i64 .i64 (s.size:Int) (s.size:Int) (by omega) (by omega) (by rw [hz2];omega) (by omega)
   rw [←hM] at h
   simpa using h
  clear hM
  have hcopy:=Lib.run_copy_row_string (P:=Tryz.prog) (w.alloc (.cells M 5)) 47 9 3 5 w.heap.size 0 s.size s.size s M 5 Tryz.underlying47 hone (heap_alloc_new w _) (Nat.le_refl _) (by omega)
  obtain ⟨Y,hY⟩:∃Y,Y=(M.toList.take 0++Lib.byteCells s.data.toList++M.toList.drop (0+s.size)).toArray:=⟨_,rfl⟩
  rw [←hY] at hcopy
  have hYl:Y.toList=Lib.byteCells s.data.toList:=by
   rw [hY,List.toList_toArray,List.take_zero,List.nil_append,List.drop_of_length_le (by rw [Array.length_toList];omega),List.append_nil]
  have hYs:Y.size=s.size:=by rw [←Array.length_toList,hYl,Lib.byteCells_length,←Lib.size_eq]
  have hg:((w.alloc (.cells M 5)).setRow w.heap.size Y).heap[w.heap.size]? = some (.cells Y 5 (0,0)):=setRow_heap _ _ M _ 5 (0,0) (heap_alloc_new w _)
  have hne:s.data.toList≠[]:=fun e=>h0 (by rw [Lib.size_eq,e];rfl)
  have hstr:=Lib.run_unsafeString_row (P:=Tryz.prog) ((w.alloc (.cells M 5)).setRow w.heap.size Y) 235 3 9 5 Tryz.underlying235 hcells w.heap.size Y.size (by unfold World.shape?;rw [hg]) s.data.toList hne (by rw [←Lib.size_eq];omega) (by rw [←Lib.size_eq];omega)
   (fun j x hx=>Lib.cells_of_row hg Y.size j _ (by rw [List.take_of_length_le (by rw [Array.length_toList];exact Nat.le_refl _),hYl];simp [Lib.byteCells,hx]))
  rw [←Lib.size_eq] at hstr
  clear hY
  go_enter Tryz.func138,Tryz.ntmps138
  go_wp2
  go_ret
  have b1:Below w.heap.size w (w.alloc (.cells M 5)):=(Below.refl _ w).alloc (Nat.le_refl _) _
  have b2:Below w.heap.size (w.alloc (.cells M 5)) ((w.alloc (.cells M 5)).setRow w.heap.size Y):=⟨rfl,rfl,rfl,by simp,fun k hk=>setRow_other _ _ _ _ (by omega)⟩
  exact ⟨rfl,Lib.below_freeze (b1.trans b2) (p:=⟨w.heap.size,0,none⟩) (Nat.le_refl _) _⟩
theorem clone_any (s:ByteArray) (w:World) (hlim:s.size≤281474976710656) :
 Calls Tryz.prog 109 #[.string s] w fun e w'=>e=.returned (.string s)∧Below w.heap.size w w':=by
 have H:=H_ (fun w=>lite_any s w hlim)
 go_enter Tryz.func109,Tryz.ntmps109
 go_wp2_with (go_at_call 138;refine (H.out _).mono ?_;rintro e w1 ⟨rfl,hb⟩)
 go_ret
 exact ⟨rfl,hb⟩
end CloneR
namespace LinR
open RowG LtR
theorem step_append_own {P:Program} {w:World} {ops:Array Oper} {o:Oper} {a:Act} {K:Act→World→Prop} {Q:Exit→Act→World→Prop} {E:Prop} (hgd:o.guard=none) (s x:Operand) (t:TypeId)
 (ho:o.op=.call {callee:=.builtin .append,args:=#[s,x],argTypes:=#[t,t]})
 (base:Nat) (e:TypeId) (i:TypeInfo) (z:Value) (size bytes:Nat) (ht:P.underlying t=some (.slice e)) (hi:P.info? e=some i) (hz:i.zero=some z)
 (hsize:i.size=size) (hby:i.bytes=bytes) (hzs:z.cells.size=size) (hsz:0<size)
 (v:Value) (n:Nat) (xs:List Value) (hs:a.eval s=v) (hown:w.ownsRow base e size v n xs)
 (ad:Addr) (m c:Nat) (news:List Value) (hx:a.eval x=.slice (some ad) m c) (hl:news.length=m*size) (hnews:∀j u,news[j]? = some u→w.cell? (ad.add j)=some u) (h1:∀u∈news,u.oneCell'=true)
 (h63:n+m≤maxLen) (hbytes:(n+m)*bytes≤140737488355328) (hbase:base≤w.heap.size)
 (h:∀v' w',w'.ownsRow base e size v' (n+m) (xs++news)→w.grownBy w' v.ownBlock→(v'=.slice none 0 0↔v=.slice none 0 0∧m=0)→K (a.put o.dst v') w'):if Region.wanted o (yielded ops a.tmps)=true then Oper.wp P o a w K Q else E:=by
 have hw:Region.wanted o (yielded ops a.tmps)=true:=by simp [Region.wanted,hgd]
 rw [if_pos hw]
 exact wp_append_own w s x t ho base e i z size bytes ht hi hz hsize hby hzs hsz v n xs hs hown ad m c news hx hl hnews h1 h63 hbytes hbase h
theorem own_drew {w:World} {base e size n:Nat} {v:Value} {xs:List Value} (h:w.ownsRow base e size v n xs):w.drew.ownsRow base e size v n xs:=h
theorem own_low {w:World} {base base' e size n:Nat} {v:Value} {xs:List Value} (h:w.ownsRow base e size v n xs) (hb:base'≤base):w.ownsRow base' e size v n xs:=by
 refine ⟨h.1,?_⟩
 rcases h.2 with hn|⟨g,cap,cur,rfl,h1,rest⟩
 ·exact .inl hn
 ·exact .inr ⟨g,cap,cur,rfl,by omega,rest⟩
theorem own_empty (w:World) (base e size:Nat) (hb:base≤w.heap.size):(w.alloc (.cells #[] e)).ownsRow base e size (.slice (some ⟨w.heap.size,0,none⟩) 0 0) 0 [] :=
 World.ownsRow_made w #[] 0 hb (by unfold maxLen;omega) (by simp)
def BM2 (w:World) (B:Nat) (a0 a1:Value) (W:World):Prop:=Below w.heap.size w W∧B<W.heap.size∧W.cell? ⟨B,0,none⟩=some a0∧W.cell? ⟨B,1,none⟩=some a1
theorem BM2.below {w:World} {B:Nat} {a0 a1:Value} {W W':World} (h:BM2 w B a0 a1 W) (hb:Below W.heap.size W W'):BM2 w B a0 a1 W':=by
 obtain ⟨h0,l1,p0,p1⟩:=h
 have f:=fun o=>hb.cell (p:=⟨B,o,none⟩) l1
 have hs:=hb.size
 exact ⟨h0.trans (hb.mono h0.size),by omega,(f 0).trans p0,(f 1).trans p1⟩
theorem BM2.drew {w:World} {B:Nat} {a0 a1:Value} {W:World} (h:BM2 w B a0 a1 W):BM2 w B a0 a1 W.drew:=⟨h.1.drew,h.2⟩
theorem BM2.grown {w:World} {B:Nat} {a0 a1:Value} {W W':World} {v:Value} {wr:World} {base e size n:Nat} {xs:List Value} (h:BM2 w B a0 a1 W) (hg:W.grownBy W' v.ownBlock) (ho:wr.ownsRow base e size v n xs) (hB:B=wr.heap.size:=by rfl) (hbase:w.heap.size≤base:=by omega):BM2 w B a0 a1 W':=by
 obtain ⟨h0,l1,p0,p1⟩:=h
 have hne:some B≠v.ownBlock:=fun e=>by have:=(ho.lt B e.symm).2;omega
 have e:=hg.block B l1 hne
 exact ⟨h0.grown hg h0.size (fun k e=>by have:=(ho.lt k e).1;omega),by have:=hg.size;omega,(World.cell?_of_block (a:=⟨B,0,none⟩) e).trans p0,(World.cell?_of_block (a:=⟨B,1,none⟩) e).trans p1⟩
theorem two_cells (W:World) (i:ByteArray) (n:Int) (T:TypeId):∀(j:Nat) u,(N.cells ⟨i,n⟩)[j]? = some u→(W.alloc (.cells #[.string i,.int .i64 n] T)).cell? ((⟨W.heap.size,0,none⟩:Addr).add j)=some u:=by
 intro j u hx
 have hx2:j<2:=by
  have:=(List.getElem?_eq_some_iff.1 hx).1
  simpa [N.cells] using this
 match j,hx2,hx with
 | 0,_,hx=>simp [N.cells] at hx;subst hx;simp [Addr.add,go_sem]
 | 1,_,hx=>simp [N.cells] at hx;subst hx;simp [Addr.add,go_sem]
theorem two_one (x:N):∀u∈N.cells x,u.oneCell'=true:=by
 intro u hu
 simp only [N.cells,List.mem_cons,List.not_mem_nil,or_false] at hu
 rcases hu with rfl|rfl<;>rfl
theorem filter_more (p:N→Bool) (xs:List N) (k:Nat) (h:k<xs.length):(xs.take (k+1)).filter p=(xs.take k).filter p++(bif p (xs.getD k N.zero) then [xs.getD k N.zero] else []):=by
 rw [take_more (z:=N.zero) xs k h,List.filter_append]
 generalize xs.getD k N.zero=X
 cases hr:p X<;>simp [hr]
def nz (x:N):Bool:=decide (x.n≠0)
theorem nz_cases (i:ByteArray) (n:Int):((n==0)=true∧(n != 0)=false∧nz ⟨i,n⟩=false)∨((n==0)=false∧(n != 0)=true∧nz ⟨i,n⟩=true):=by
 unfold nz
 by_cases h:n=0
 ·exact .inl ⟨by simpa using h,by simpa using h,by simpa using h⟩
 ·exact .inr ⟨by simpa using h,by simpa using h,by simpa using h⟩
set_option maxRecDepth 100000 in
set_option maxHeartbeats 4000000 in
theorem put_any (ao:Option Addr) (cap:Nat) (es:List N) (w:World) (hlen:es.length≤1048576) (hS:∀e∈es,e.i.size≤1048576) (hI:Lis ao es w) :
 Calls Tryz.prog 68 #[.slice ao es.length cap] w fun e w'=>∃v,e=.returned v∧w'.ownsRow w.heap.size 58 2 v (es.filter nz).length (cellsAll N.cells (es.filter nz))∧Below w.heap.size w w':=by
 obtain ⟨i0,hi,hz0,hz1,hz2⟩:=info_parts infoN
 have HI:=H_ hI
 have HS:=H_ hS
 obtain ⟨len,hl⟩:∃len,len=es.length:=⟨_,rfl⟩
 rw [←hl] at hlen ⊢
 have HL:=H_ hl
 clear hI hS hl
 go_enter Tryz.func68,Tryz.ntmps68
 go_wp2_with fail
 go_loopw [3,8] (fun v z wr=>∃k:Nat,k≤len∧z=.int .i64 k∧Hid (wr.ownsRow w.heap.size 58 2 v ((es.take k).filter nz).length (cellsAll N.cells ((es.take k).filter nz)))∧Hid (Below w.heap.size w wr)) (fun v z _=>len-(intOf z).toNat)
 case atStart=>exact ⟨0,by omega,rfl,H_ (World.ownsRow_nil _ _ _ _),H_ (Below.refl _ _)⟩
 case round =>
  obtain ⟨k,hk,rfl,HO,HB⟩:=hrel
  by_cases hlt:k<len
  ·have hlt2:(k:Int)<(len:Int):=by omega
   obtain ⟨b,off,rfl,hbl,c0,c1⟩:=(HI.out.below HB.out).at k (by have:=HL.out;omega)
   have hsz:=HS.out _ (getD_mem (z:=N.zero) es k (by have:=HL.out;omega))
   have HF:=H_ (filter_more nz es k (by have:=HL.out;omega))
   have HLF:Hid (((es.take k).filter nz).length≤1048576):=H_ (by
    have h1:=List.length_filter_le nz (es.take k)
    have h2:=List.length_take_le k es
    omega)
   obtain ⟨F,hF⟩:∃F,F=(es.take k).filter nz:=⟨_,rfl⟩
   rw [←hF] at HO HF HLF
   clear hF
   generalize es.getD k N.zero=X at *
   obtain ⟨xi,xn⟩:=X
   dsimp only at c0 c1 hsz
   rcases nz_cases xi xn with ⟨q1,q2,q3⟩|⟨q1,q2,q3⟩
   ·rw [q3] at HF
    go_wp2_with fail
    go_roundw
    case rel=>exact ⟨k+1,by omega,by go_num,H_ (by rw [HF.out,cond_false,List.append_nil];exact HO.out.alloc _),H_ (HB.out.alloc HB.out.size _)⟩
    case measure=>simp [intOf];omega
   ·rw [q3] at HF
    have HCL:=H_ (fun w=>CloneR.clone_any xi w (by omega))
    have HAl:Hid (BM2 w wr.heap.size (.string xi) (.int .i64 xn) (wr.alloc (.cells #[.string xi,.int .i64 xn] 58))):=H_ ⟨HB.out.alloc HB.out.size _,by simp,by simp [go_sem],by simp [go_sem]⟩
    have HAd:=H_ HAl.out.drew
    have HOA:=H_ (own_drew (HO.out.alloc (.cells #[.string xi,.int .i64 xn] 58)))
    have sz1:F.length+1≤maxLen:=by unfold maxLen;have:=HLF.out;omega
    have sz2:(F.length+1)*24≤140737488355328:=by have:=HLF.out;omega
    have sz3:0<2:=by omega
    go_wp2_with fail
    go_region_held3 (fun W=>Below w.heap.size w W∧wr.heap.size<W.heap.size∧W.cell? ⟨wr.heap.size,0,none⟩=some (.string xi)∧W.cell? ⟨wr.heap.size,1,none⟩=some (.int .i64 xn))
     (first|assumption|(exact HAl.out)|(exact HAd.out)|(exact BM2.below (w:=w) (B:=wr.heap.size) (by assumption) hb1)|(exact BM2.below (w:=w) (B:=wr.heap.size) (by assumption) ((Below.refl _ _).alloc (Nat.le_refl _) _))|(exact BM2.grown (w:=w) (B:=wr.heap.size) (by assumption) hgrow HO.out rfl (Nat.le_refl _)))
     (first|(go_at_call 109;refine (HCL.out _).mono ?_;rintro e w1 ⟨rfl,hb1⟩;have HO1:=H_ (own_below HOA.out hb1);have HS1:Hid (w.heap.size≤w1.heap.size):=H_ (Nat.le_trans HAd.out.1.size hb1.size))|(refine step_append_own rfl _ _ 29 rfl w.heap.size 58 i0 (.agg #[.string ⟨#[]⟩,.int .i64 0]) 2 24 Tryz.underlying29 hi hz0 hz1 hz2 rfl sz3 _ _ _ rfl (HO1.out.alloc _) ⟨w1.heap.size,0,none⟩ 1 1 (N.cells ⟨xi,xn⟩) rfl rfl (two_cells _ _ _ _) (two_one _) sz1 sz2 (Nat.le_trans HS1.out (by simp)) ?_;intro v' w4 hown hgrow hne))
    rename_i hS
    have HB4:=H_ hS.1
    have HO4:Hid (w4.ownsRow w.heap.size 58 2 v' (F ++ [(⟨xi,xn⟩:N)]).length (cellsAll N.cells (F ++ [(⟨xi,xn⟩:N)]))):=H_ (by rw [cellsAll_app,List.length_append];exact hown)
    clear hown hgrow hne hS
    go_wp2_with fail
    go_roundw
    case rel=>exact ⟨k+1,by omega,by go_num,H_ (by rw [HF.out,cond_true];exact HO4.out),HB4⟩
    case measure=>simp [intOf];omega
  ·have hlt2:¬(k:Int)<(len:Int):=by omega
   obtain rfl:k=len:=by omega
   have HE:Hid (es.take k=es):=H_ (List.take_of_length_le (by have:=HL.out;omega))
   rw [HE.out] at HO
   go_wp2_with fail
   go_ret
   exact ⟨_,rfl,HO.out,HB.out⟩
end LinR
namespace CatR
def Blk (b:Nat) (cs:List Value) (w:World):Prop:=b<w.heap.size∧∀i,i<cs.length→w.cell? ⟨b,i,none⟩=cs[i]?
theorem Blk.below {b:Nat} {cs:List Value} {w w':World} (h:Blk b cs w) (hb:Below w.heap.size w w'):Blk b cs w' :=
 ⟨by have:=hb.size;have:=h.1;omega,fun i hi=>(hb.cell (p:=⟨b,i,none⟩) h.1).trans (h.2 i hi)⟩
theorem Blk.new (w:World) (cs:List Value) (T:TypeId):Blk w.heap.size cs (w.alloc (.cells cs.toArray T)) :=
 ⟨by simp,fun i hi=>by simp [go_sem]⟩
theorem Blk.alloc {b:Nat} {cs:List Value} {w:World} (h:Blk b cs w) (o:Obj):Blk b cs (w.alloc o):=h.below ((Below.refl _ _).alloc (Nat.le_refl _) _)
theorem Blk.drew {b:Nat} {cs:List Value} {w:World} (h:Blk b cs w):Blk b cs w.drew:=h
theorem Blk.drewN {b:Nat} {cs:List Value} {w:World} (h:Blk b cs w) (n:Nat):Blk b cs (w.drewN n):=h
end CatR
namespace DocR
open RowG
open EvtR (Pt)
open CatR (Blk Blk.new)
def BlkW (b:Nat) (cs:List Value) (w:World):Prop:=Blk b cs w∧∀i,i<cs.length→w.frozen? ⟨b,i,none⟩=false
theorem BlkW.below {b:Nat} {cs:List Value} {w w':World} (h:BlkW b cs w) (hb:Below w.heap.size w w'):BlkW b cs w' :=
 ⟨h.1.below hb,fun i hi=>(hb.frozen (p:=⟨b,i,none⟩) h.1.1).trans (h.2 i hi)⟩
theorem BlkW.new (w:World) (cs:List Value) (T:TypeId):BlkW w.heap.size cs (w.alloc (.cells cs.toArray T)) :=
 ⟨Blk.new w cs T,fun i hi=>by simp [go_sem]⟩
theorem BlkW.set {b:Nat} {cs:List Value} {w:World} (h:BlkW b cs w) (o:Nat) (v:Value) (ho:o<cs.length):BlkW b (cs.set o v) (w.setCell ⟨b,o,none⟩ v):=by
 obtain ⟨⟨hl,hc⟩,hf⟩:=h
 refine ⟨⟨by simpa using hl,fun i hi=>?_⟩,fun i hi=>?_⟩
 ·rw [List.length_set] at hi
  by_cases e:o=i
  ·subst e
   have:=hc o hi
   rw [List.getElem?_eq_getElem hi] at this
   rw [List.getElem?_set_self ho]
   simp [go_sem,this]
  ·rw [List.getElem?_set_ne e,←hc i hi]
   simp [go_sem]
 ·rw [List.length_set] at hi
  have:=hf i hi
  simp [go_sem,this]
theorem BlkW.other {b:Nat} {cs:List Value} {w:World} (h:BlkW b cs w) (g o:Nat) (v:Value) (hg:g≠b):BlkW b cs (w.setCell ⟨g,o,none⟩ v):=by
 have e:=(grown_set w g o v).block b h.1.1 (by simp;exact fun q=>hg q.symm)
 exact ⟨⟨by simpa using h.1.1,fun i hi=>(World.cell?_of_block (a:=⟨b,i,none⟩) e).trans (h.1.2 i hi)⟩,fun i hi=>(World.frozen?_of_block (a:=⟨b,i,none⟩) e).trans (h.2 i hi)⟩
theorem Rws.put {α:Type} {k:Nat} {cells:α→List Value} {z:α} {ao:Option Addr} {xs:List α} {w:World} (h:Rws k cells z ao xs w) (g o:Nat) (v:Value) (hne:xs.length=0∨∀b off,ao=some ⟨b,off,none⟩→b≠g):Rws k cells z ao xs (w.setCell ⟨g,o,none⟩ v) :=
 h.grown (grown_set w g o v) (hne.imp id (fun hn b off e q=>hn b off e (by simpa using q)))
theorem MadeG.put {α:Type} {k:Nat} {cells:α→List Value} {z:α} {base:Nat} {ao:Option Addr} {xs:List α} {w:World} (h:MadeG k cells z base ao xs w) (g o:Nat) (v:Value) (hne:xs.length=0∨∀b off,ao=some ⟨b,off,none⟩→b≠g):MadeG k cells z base ao xs (w.setCell ⟨g,o,none⟩ v):=by
 refine ⟨Rws.put h.rws g o v hne,?_⟩
 rcases h.own with h0|⟨b,e1,e2,e3⟩
 ·exact .inl h0
 ·rcases hne with h0|hn
  ·exact .inl h0
  have e:=(grown_set w g o v).block b e3.lt (by simp;exact fun q=>hn b 0 e1 q)
  exact .inr ⟨b,e1,e2,by simpa using e3.lt,fun x hx=>by obtain ⟨u,hu⟩:=e3.has x hx;exact ⟨u,(World.cell?_of_block (a:=⟨b,x,none⟩) e).trans hu⟩,fun x hx=>(World.frozen?_of_block (a:=⟨b,x,none⟩) e).trans (e3.free x hx)⟩
end DocR
namespace StR
open EvtR (Pt cell_put cell_far)
open CatR (Blk)
def stL (W:World) (p:Nat):Nat→List Value→World
 | _,[]=>W
 | o,v::vs=>stL (W.setCell ⟨p,o,none⟩ v) p (o+1) vs
theorem gtr {w w1 w2:World} {g:Option Nat} (h1:w.grownBy w1 g) (h2:w1.grownBy w2 g):w.grownBy w2 g :=
 ⟨h2.os.trans h1.os,h2.tape.trans h1.tape,h2.output.trans h1.output,Nat.le_trans h1.size h2.size,fun k hk hne=>(h2.block k (by have:=h1.size;omega) hne).trans (h1.block k hk hne)⟩
theorem stL_grown (p:Nat):∀(vs:List Value) (o:Nat) (W:World),W.grownBy (stL W p o vs) (some p)
 | [],_,W=>⟨rfl,rfl,rfl,Nat.le_refl _,fun _ _ _=>rfl⟩
 | v::vs,o,W=>gtr (RowG.grown_set W p o v) (stL_grown p vs (o+1) _)
theorem stL_pt {p n:Nat}:∀(vs:List Value) (o:Nat) (W:World),Pt p n W→Pt p n (stL W p o vs)
 | [],_,_,h=>h
 | v::vs,o,W,h=>stL_pt vs (o+1) _ (h.set o v)
theorem stL_old {p:Nat}:∀(vs:List Value) (o:Nat) (W:World) (j:Nat),j<o→(stL W p o vs).cell? ⟨p,j,none⟩=W.cell? ⟨p,j,none⟩
 | [],_,_,_,_=>rfl
 | v::vs,o,W,j,hj=>(stL_old vs (o+1) _ j (by omega)).trans (cell_far o j (by omega) v)
theorem stL_cells {p n:Nat}:∀(vs:List Value) (o:Nat) (W:World),Pt p n W→o+vs.length≤n→∀i,i<vs.length→(stL W p o vs).cell? ⟨p,o+i,none⟩=vs[i]?
 | [],_,_,_,_,i,hi=>absurd hi (by simp)
 | v::vs,o,W,hp,hn,i,hi=>by
  simp only [List.length_cons] at hn hi
  cases i with
  | zero =>
   rw [Nat.add_zero]
   exact (stL_old vs (o+1) _ o (by omega)).trans ((cell_put hp o (by omega) v).trans rfl)
  | succ i =>
   have:=stL_cells vs (o+1) (W.setCell ⟨p,o,none⟩ v) (hp.set o v) (by omega) i (by omega)
   rw [show o+1+i=o+(i+1) by omega] at this
   exact this.trans rfl
theorem stL_blk {p n:Nat} {vs:List Value} {W:World} (hp:Pt p n W) (hn:vs.length≤n):Blk p vs (stL W p 0 vs) :=
 ⟨(stL_pt vs 0 W hp).lt,fun i hi=>by have:=stL_cells vs 0 W hp (by omega) i hi;rw [Nat.zero_add] at this;exact this⟩
theorem pt_far {p q n:Nat} {W W':World} (h:Pt p n W) (hg:W.grownBy W' (some q)) (hne:p≠q):Pt p n W':=by
 have e:=hg.block p h.lt (by simpa using hne)
 exact ⟨by have:=hg.size;have:=h.lt;omega,fun o ho=>by obtain ⟨v,hv⟩:=h.has o ho;exact ⟨v,(World.cell?_of_block (a:=⟨p,o,none⟩) e).trans hv⟩,fun o ho=>(World.frozen?_of_block (a:=⟨p,o,none⟩) e).trans (h.free o ho)⟩
theorem pt_new (w:World) (cs:List Value) (T:TypeId):Pt w.heap.size cs.length (w.alloc (.cells cs.toArray T)) :=
 ⟨by simp,fun o ho=>⟨cs[o],by simp [go_sem,ho]⟩,fun o ho=>by simp [go_sem]⟩
end StR
namespace OwG
open RowG (MadeG Rws cellsAll)
open EvtR (Pt)
open CatR (Blk Blk.new)
open DocR (BlkW)
theorem rgrownO {w w':World} (hb:Below w.heap.size w w') (row:Option Nat):w.grownBy w' row:=⟨hb.os,hb.tape,hb.output,hb.size,fun k hk _=>hb.block k hk⟩
theorem blkW_grown {b:Nat} {cs:List Value} {w w':World} {row:Option Nat} (h:BlkW b cs w) (hg:w.grownBy w' row) (hne:some b≠row):BlkW b cs w':=by
 have e:=hg.block b h.1.1 hne
 exact ⟨⟨Nat.lt_of_lt_of_le h.1.1 hg.size,fun i hi=>(World.cell?_of_block (a:=⟨b,i,none⟩) e).trans (h.1.2 i hi)⟩,fun i hi=>(World.frozen?_of_block (a:=⟨b,i,none⟩) e).trans (h.2 i hi)⟩
theorem pt_row {p n:Nat} {W W':World} {row:Option Nat} (h:Pt p n W) (hg:W.grownBy W' row) (hne:some p≠row):Pt p n W':=by
 have e:=hg.block p h.lt hne
 exact ⟨by have:=hg.size;have:=h.lt;omega,fun o ho=>by obtain ⟨v,hv⟩:=h.has o ho;exact ⟨v,(World.cell?_of_block (a:=⟨p,o,none⟩) e).trans hv⟩,fun o ho=>(World.frozen?_of_block (a:=⟨p,o,none⟩) e).trans (h.free o ho)⟩
theorem own_keepG {w w':World} {base e size n:Nat} {v:Value} {xs:List Value} {g:Nat} (h:w.ownsRow base e size v n xs) (hg:w.grownBy w' (some g)) (hlt:g<base):w'.ownsRow base e size v n xs:=by
 refine h.kept hg ?_
 rcases hob:v.ownBlock with _|b
 ·exact .inl rfl
 ·refine .inr (fun e=>?_)
  have:=(h.lt b hob).1
  simp only [Option.some.injEq] at e
  omega
theorem own_keepO {w w':World} {base e size n:Nat} {v:Value} {xs:List Value} {row:Option Nat} (h:w.ownsRow base e size v n xs) (hg:w.grownBy w' row) (hne:∀b,v.ownBlock=some b→some b≠row):w'.ownsRow base e size v n xs:=by
 refine h.kept hg ?_
 rcases hob:v.ownBlock with _|b
 ·exact .inl rfl
 ·exact .inr (hne b hob)
theorem own_low {w:World} {base base' e size n:Nat} {v:Value} {xs:List Value} (h:w.ownsRow base e size v n xs) (hb:base'≤base):w.ownsRow base' e size v n xs:=by
 refine ⟨h.1,?_⟩
 rcases h.2 with hn|⟨g,cap,cur,rfl,h1,rest⟩
 ·exact .inl hn
 ·exact .inr ⟨g,cap,cur,rfl,by omega,rest⟩
end OwG
end Go.Proofs.YtcilbmhkhllmjaaGreatDoor
namespace Go.Proofs.YtcilbmhkhllmjaaGreatDoor
namespace DateM
def fd (k:Nat):Int:=ys (k / 12)+ms (1970+((k / 12:Nat):Int)) (k % 12)
theorem fd_succ (k:Nat):fd (k+1)=fd k+md (1970+((k / 12:Nat):Int)) (((k % 12:Nat):Int)+1):=by
 unfold fd
 by_cases h:k % 12=11
 ·rw [show (k+1) / 12=k / 12+1 by omega,show (k+1) % 12=0 by omega,ys_succ,←ms_all,h,ms_succ]
  simp only [ms]
  omega
 ·rw [show (k+1) / 12=k / 12 by omega,show (k+1) % 12=k % 12+1 by omega,ms_succ]
  omega
theorem fd_step (k:Nat):fd k+28≤fd (k+1)∧fd (k+1)≤fd k+31:=by
 rw [fd_succ]
 have:=md_bd (1970+((k / 12:Nat):Int)) (((k % 12:Nat):Int)+1)
 omega
theorem fd_mono {j k:Nat} (h:j≤k):fd j+28*((k:Int)-j)≤fd k:=by
 induction k with
 | zero =>
  obtain rfl:j=0:=by omega
  simp
 | succ k ih =>
  by_cases e:j=k+1
  ·subst e;simp
  ·have:=ih (by omega)
   have:=fd_step k
   omega
theorem fd_one {d:Int} {j k:Nat} (h1:fd j≤d) (h2:d<fd (k+1)):j≤k:=by
 apply Nat.le_of_not_lt
 intro h
 have:=fd_mono (show k+1≤j from h)
 omega
theorem num_fd (y m d:Int) (h:rightB y m d=true):∃k:Nat,k≤2771∧12*(y-1970)+(m-1)=(k:Int)∧fd k≤num y m d∧num y m d<fd (k+1):=by
 obtain ⟨y1,y2,m1,m2,d1,d2⟩:=(right_iff y m d).1 h
 refine ⟨(12*(y-1970)+(m-1)).toNat,by omega,by omega,?_⟩
 have e1:(12*(y-1970)+(m-1)).toNat / 12=(y-1970).toNat:=by omega
 have e2:(12*(y-1970)+(m-1)).toNat % 12=(m-1).toNat:=by omega
 rw [fd_succ]
 unfold fd num
 rw [e1,e2,show 1970+(((y-1970).toNat:Nat):Int)=y by omega,show (((m-1).toNat:Nat):Int)+1=m by omega]
 omega
theorem ys_nat:∀k:Nat,k≤231→ys k=((List.range k).foldl (fun (a:Int) (j:Nat)=>a+yd (1970+(j:Int))) 0):=by
 intro k _
 induction k with
 | zero=>rfl
 | succ k ih=>rw [List.range_succ,List.foldl_append,←ih (by omega)];rfl
theorem ys_231:84028≤ys 231:=by rw [ys_nat 231 (by omega)];decide +kernel
theorem fd_2760:fd 2760=84006:=by
 unfold fd
 show ys 230+ms _ 0=_
 rw [ys_nat 230 (by omega)]
 decide +kernel
end DateM
end Go.Proofs.YtcilbmhkhllmjaaGreatDoor
