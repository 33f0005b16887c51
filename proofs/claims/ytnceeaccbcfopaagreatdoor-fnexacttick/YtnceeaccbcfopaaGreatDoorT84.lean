/-
  The order of texts, what a right catalog is, and a map of meters by their names, as read. No condition.
-/
import Derived.Maps.OwnSet
import Derived.Test.YtnceeaccbcfopaaGreatDoorT83
namespace Go.Proofs.YtnceeaccbcfopaaGreatDoor
open Go.RowKit
set_option linter.unusedVariables false
namespace CatR
open Op (bytesLess)
theorem bl_irrefl:∀x:List UInt8,bytesLess x x=false
 | []=>rfl
 | a::x=>by
  rw [bytesLess,bl_irrefl x]
  simp
theorem bl_trans:∀{x y z:List UInt8},bytesLess x y=true→bytesLess y z=true→bytesLess x z=true
 | _,[],_,h,_=>by simp [bytesLess] at h
 | _,_::_,[],_,h=>by simp [bytesLess] at h
 | [],_::_,_::_,_,_=>rfl
 | a::x,b::y,c::z,h1,h2=>by
  rw [bytesLess] at *
  simp only [Bool.or_eq_true,Bool.and_eq_true,decide_eq_true_eq,beq_iff_eq] at *
  rcases h1 with h1|⟨rfl,h1⟩
  ·rcases h2 with h2|⟨rfl,h2⟩
   ·exact .inl (UInt8.lt_trans h1 h2)
   ·exact .inl h1
  ·rcases h2 with h2|⟨rfl,h2⟩
   ·exact .inl h2
   ·exact .inr ⟨rfl,bl_trans h1 h2⟩
theorem bl_total:∀{x y:List UInt8},bytesLess x y=false→bytesLess y x=false→x=y
 | [],[],_,_=>rfl
 | [],_::_,h,_=>by simp [bytesLess] at h
 | _::_,[],_,h=>by simp [bytesLess] at h
 | a::x,b::y,h1,h2=>by
  rw [bytesLess] at *
  simp only [Bool.or_eq_false_iff,Bool.and_eq_false_iff,decide_eq_false_iff_not,beq_eq_false_iff_ne] at *
  have e:a=b:=by
   have p1:=h1.1
   have p2:=h2.1
   rw [UInt8.lt_iff_toNat_lt] at p1 p2
   exact UInt8.toNat.inj (by omega)
  subst e
  rw [bl_total (h1.2.resolve_left (fun h=>h rfl)) (h2.2.resolve_left (fun h=>h rfl))]
def lt (a b:ByteArray):Bool:=bytesLess a.toList b.toList
theorem toList_inj {a b:ByteArray} (h:a.toList=b.toList):a=b:=by
 rw [ByteArray.toList_eq,ByteArray.toList_eq] at h
 exact ByteArray.ext (Array.ext' h)
theorem lt_irrefl (a:ByteArray):lt a a=false:=bl_irrefl _
theorem lt_trans {a b c:ByteArray} (h1:lt a b=true) (h2:lt b c=true):lt a c=true:=bl_trans h1 h2
theorem lt_total {a b:ByteArray} (h1:lt a b=false) (h2:lt b a=false):a=b:=toList_inj (bl_total h1 h2)
theorem lt_asymm {a b:ByteArray} (h:lt a b=true):lt b a=false:=by
 cases h2:lt b a
 ·rfl
 ·have:=lt_trans h h2
  rw [lt_irrefl] at this
  cases this
theorem lt_empty {b:ByteArray} (h:1≤b.size):lt ⟨#[]⟩ b=true:=by
 unfold lt
 have h1:(⟨#[]⟩:ByteArray).toList=[]:=by rw [ByteArray.toList_eq]
 rw [h1]
 cases hb:b.toList with
 | nil =>
  rw [ByteArray.toList_eq] at hb
  have:b.data.toList.length=0:=by rw [hb];rfl
  have h2:b.data.toList.length=b.size:=rfl
  omega
 | cons x l=>rfl
def mN (ms:List Me) (i:Nat):ByteArray:=(ms.getD i Me.zero).n
def cA (cs:List Cr) (i:Nat):ByteArray:=(cs.getD i Cr.zero).a
def cM (cs:List Cr) (i:Nat):Int:=(cs.getD i Cr.zero).m
def MOk (ms:List Me) (k:Nat):Prop:=∀i,i<k→MRight (ms.getD i Me.zero)∧(0<i→lt (mN ms (i-1)) (mN ms i)=true)
def COk (cs:List Cr) (k:Nat):Prop:=∀i,i<k→(NameR.nameB (cA cs i)=true∧0≤cM cs i∧cM cs i≤1000000000000)∧(0<i→lt (cA cs (i-1)) (cA cs i)=true)
def MsRight (ms:List Me):Prop:=ms.length≤6∧MOk ms ms.length
def CsRight (cs:List Cr):Prop:=cs.length≤6∧COk cs cs.length
theorem MOk.rise {ms:List Me} {k:Nat} (h:MOk ms k):∀j,j<k→∀i,i<j→lt (mN ms i) (mN ms j)=true
 | 0,_,i,hi=>absurd hi (by omega)
 | j+1,hj,i,hi=>by
  have h1:lt (mN ms j) (mN ms (j+1))=true:=(h (j+1) hj).2 (by omega)
  by_cases e:i=j
  ·subst e;exact h1
  ·exact lt_trans (MOk.rise h j (by omega) i (by omega)) h1
theorem MOk.apart {ms:List Me} {k:Nat} (h:MOk ms k) {i j:Nat} (hi:i<k) (hj:j<k) (e:mN ms i=mN ms j):i=j:=by
 rcases Nat.lt_trichotomy i j with h1|h1|h1
 ·have:=h.rise j hj i h1
  rw [e,lt_irrefl] at this
  cases this
 ·exact h1
 ·have:=h.rise i hi j h1
  rw [e,lt_irrefl] at this
  cases this
theorem MOk.zero (ms:List Me):MOk ms 0:=fun i h=>absurd h (by omega)
theorem COk.zero (cs:List Cr):COk cs 0:=fun i h=>absurd h (by omega)
theorem MOk.more {ms:List Me} {k:Nat} (h:MOk ms k) (h1:MRight (ms.getD k Me.zero)) (h2:0<k→lt (mN ms (k-1)) (mN ms k)=true):MOk ms (k+1):=by
 intro i hi
 by_cases e:i=k
 ·subst e;exact ⟨h1,h2⟩
 ·exact h i (by omega)
theorem COk.more {cs:List Cr} {k:Nat} (h:COk cs k) (h1:NameR.nameB (cA cs k)=true) (h3:0≤cM cs k∧cM cs k≤1000000000000) (h2:0<k→lt (cA cs (k-1)) (cA cs k)=true):COk cs (k+1):=by
 intro i hi
 by_cases e:i=k
 ·subst e;exact ⟨⟨h1,h3⟩,h2⟩
 ·exact h i (by omega)
def MOkDec (ms:List Me) (k:Nat):Decidable (MOk ms k) :=
 haveI:=MRightDec
 inferInstanceAs (Decidable (∀i,i<k→MRight (ms.getD i Me.zero)∧(0<i→lt (mN ms (i-1)) (mN ms i)=true)))
def COkDec (cs:List Cr) (k:Nat):Decidable (COk cs k):=inferInstanceAs (Decidable (∀i,i<k→(NameR.nameB (cA cs i)=true∧0≤cM cs i∧cM cs i≤1000000000000)∧(0<i→lt (cA cs (i-1)) (cA cs i)=true)))
def MsRightDec (ms:List Me):Decidable (MsRight ms) :=
 haveI:=MOkDec ms ms.length
 inferInstanceAs (Decidable (ms.length≤6∧MOk ms ms.length))
def CsRightDec (cs:List Cr):Decidable (CsRight cs) :=
 haveI:=COkDec cs cs.length
 inferInstanceAs (Decidable (cs.length≤6∧COk cs cs.length))
def msB (ms:List Me):Bool:=@decide (MsRight ms) (MsRightDec ms)
def csB (cs:List Cr):Bool:=@decide (CsRight cs) (CsRightDec cs)
def caB (c:Ca):Bool:=msB c.ms&&csB c.cs
theorem msB_no {ms:List Me} (h:¬MsRight ms):msB ms=false:=by unfold msB;exact @decide_eq_false _ (MsRightDec ms) h
theorem msB_yes {ms:List Me} (h:MsRight ms):msB ms=true:=by unfold msB;exact @decide_eq_true _ (MsRightDec ms) h
theorem csB_no {cs:List Cr} (h:¬CsRight cs):csB cs=false:=by unfold csB;exact @decide_eq_false _ (CsRightDec cs) h
theorem csB_yes {cs:List Cr} (h:CsRight cs):csB cs=true:=by unfold csB;exact @decide_eq_true _ (CsRightDec cs) h
theorem mB_iff {m:Me}:mB m=true↔MRight m:=by unfold mB;exact @decide_eq_true_iff _ (MRightDec m)
def RV (v:Value):Option (DataW Value × List MemPlace):=some (.held v,[])
def kS (n:ByteArray):Lit:=.string n.data.toList
theorem kS_inj {a b:ByteArray} (h:kS a=kS b):a=b:=by
 unfold kS at h
 simp only [Lit.string.injEq] at h
 exact ByteArray.ext (Array.ext' h)
theorem kS_key (n:ByteArray):WideAt.IsKeyLit (kS n):=by
 unfold kS
 first|trivial|exact rfl|(simp [WideAt.IsKeyLit])
def mapD (ms:List Me) (V:Nat→Value):Nat→DataW Value
 | 0=>.map []
 | k+1=>(mapD ms V k).put (kS (mN ms k)) (.held (V k))
theorem mapD_is (ms:List Me) (V:Nat→Value):∀k,Maps.IsMap (mapD ms V k)
 | 0=>Maps.isMap_empty
 | k+1=>(mapD_is ms V k).put _ _
theorem has_mapD (ms:List Me) (V:Nat→Value) (n:ByteArray):∀k,Maps.has (mapD ms V k) (kS n)=true↔∃i,i<k∧mN ms i=n
 | 0=>by
  refine ⟨fun h=>?_,fun ⟨i,hi,_⟩=>absurd hi (by omega)⟩
  rw [mapD,Maps.has_eq] at h
  simp at h
 | k+1=>by
  rw [mapD]
  by_cases e:n=mN ms k
  ·subst e
   rw [Maps.has_put_same (mapD_is ms V k) (kS_key _)]
   exact ⟨fun _=>⟨k,by omega,rfl⟩,fun _=>rfl⟩
  ·rw [Maps.has_put_other (fun h=>e (kS_inj h)),has_mapD ms V n k]
   constructor
   ·rintro ⟨i,hi,h⟩;exact ⟨i,by omega,h⟩
   ·rintro ⟨i,hi,h⟩
    refine ⟨i,?_,h⟩
    rcases Nat.lt_or_ge i k with h1|h1
    ·exact h1
    ·obtain rfl:i=k:=by omega
     exact absurd h.symm e
theorem at_mapD_some (ms:List Me) (V:Nat→Value) (n:ByteArray):∀k,(∃i,i<k∧mN ms i=n)→∃j,j<k∧∀z,(mapD ms V k).atKey (kS n) z=.held (V j)
 | 0,⟨i,hi,_⟩=>absurd hi (by omega)
 | k+1,h=>by
  by_cases e:n=mN ms k
  ·subst e
   exact ⟨k,by omega,fun z=>by rw [mapD];exact Maps.atKey_put_same (mapD_is ms V k) (kS_key _) _ _⟩
  ·obtain ⟨i,hi,he⟩:=h
   obtain ⟨j,hj,h2⟩:=at_mapD_some ms V n k ⟨i,by
    rcases Nat.lt_or_ge i k with h1|h1
    ·exact h1
    ·obtain rfl:i=k:=by omega
     exact absurd he.symm e,he⟩
   exact ⟨j,by omega,fun z=>by rw [mapD,Maps.atKey_put_other (fun h=>e (kS_inj h))];exact h2 z⟩
def delD (ms:List Me) (D:DataW Value):Nat→DataW Value
 | 0=>D
 | k+1=>(delD ms D k).del (kS (mN ms k))
theorem has_delD (ms:List Me) (D:DataW Value) (n:ByteArray):∀k,Maps.has (delD ms D k) (kS n)=true↔(Maps.has D (kS n)=true∧∀i,i<k→mN ms i≠n)
 | 0=>⟨fun h=>⟨h,fun i hi=>absurd hi (by omega)⟩,fun h=>h.1⟩
 | k+1=>by
  rw [delD]
  by_cases e:n=mN ms k
  ·subst e
   rw [Maps.has_del_same]
   exact ⟨fun h=>(by cases h),fun h=>absurd rfl (h.2 k (by omega))⟩
  ·rw [Maps.has_del_other (fun h=>e (kS_inj h)),has_delD ms D n k]
   constructor
   ·rintro ⟨h1,h2⟩
    refine ⟨h1,fun i hi h=>?_⟩
    rcases Nat.lt_or_ge i k with h3|h3
    ·exact h2 i h3 h
    ·obtain rfl:i=k:=by omega
     exact e h.symm
   ·rintro ⟨h1,h2⟩;exact ⟨h1,fun i hi=>h2 i (by omega)⟩
theorem at_delD (ms:List Me) (D:DataW Value) (n:ByteArray) (z:DataW Value):∀k,(∀i,i<k→mN ms i≠n)→(delD ms D k).atKey (kS n) z=D.atKey (kS n) z
 | 0,_=>rfl
 | k+1,h=>by
  rw [delD,Maps.atKey_del_other (fun e=>h k (by omega) (kS_inj e).symm)]
  exact at_delD ms D n z k (fun i hi=>h i (by omega))
theorem ms_alike {ms:List Me} {k i:Nat} (hk:k<ms.length) (hi:i<k) (e:mN ms i=mN ms k):msB ms=false:=msB_no (fun h=>by
 have:=h.2.apart (by omega) hk e
 omega)
theorem ms_falls {ms:List Me} {k:Nat} (hk:k<ms.length) (h0:0<k) (h:lt (mN ms k) (mN ms (k-1))=true):msB ms=false:=msB_no (fun hr=>by
 have:=lt_asymm ((hr.2 k hk).2 h0)
 rw [h] at this
 cases this)
theorem ms_flat {ms:List Me} {k:Nat} (hk:k<ms.length) (h0:0<k) (h:lt (mN ms (k-1)) (mN ms k)=false):msB ms=false:=msB_no (fun hr=>by
 have:=(hr.2 k hk).2 h0
 rw [h] at this
 cases this)
theorem ms_wrong {ms:List Me} {k:Nat} (hk:k<ms.length) (h:mB (ms.getD k Me.zero)=false):msB ms=false:=msB_no (fun hr=>by
 have:=mB_iff.2 (hr.2 k hk).1
 rw [h] at this
 cases this)
theorem ms_end {ms:List Me} (h6:ms.length≤6) (h:MOk ms ms.length):msB ms=true:=msB_yes ⟨h6,h⟩
theorem ms_many {ms:List Me} (h6:6<ms.length):msB ms=false:=msB_no (fun hr=>by have:=hr.1;omega)
theorem cs_many {cs:List Cr} (h6:6<cs.length):csB cs=false:=csB_no (fun hr=>by have:=hr.1;omega)
theorem cs_end {cs:List Cr} (h6:cs.length≤6) (h:COk cs cs.length):csB cs=true:=csB_yes ⟨h6,h⟩
theorem cs_name {cs:List Cr} {k:Nat} (hk:k<cs.length) (h:NameR.nameB (cA cs k)=false):csB cs=false:=csB_no (fun hr=>by
 have:=(hr.2 k hk).1.1
 rw [h] at this
 cases this)
theorem cs_micro {cs:List Cr} {k:Nat} (hk:k<cs.length) (h:¬(0≤cM cs k∧cM cs k≤1000000000000)):csB cs=false:=csB_no (fun hr=>h (hr.2 k hk).1.2)
theorem cs_flat {cs:List Cr} {k:Nat} (hk:k<cs.length) (h0:0<k) (h:lt (cA cs (k-1)) (cA cs k)=false):csB cs=false:=csB_no (fun hr=>by
 have:=(hr.2 k hk).2 h0
 rw [h] at this
 cases this)
end CatR
end Go.Proofs.YtnceeaccbcfopaaGreatDoor
