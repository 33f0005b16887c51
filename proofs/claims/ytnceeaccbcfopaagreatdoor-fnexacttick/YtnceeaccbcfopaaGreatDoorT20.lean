/-
  The order of texts. No condition.
-/
import Derived.Test.YtnceeaccbcfopaaGreatDoorT19
namespace Go.Proofs.YtnceeaccbcfopaaGreatDoor
open Go.RowKit
namespace LtR
open Op (bytesLess)
theorem bl_irrefl:∀x:List UInt8,bytesLess x x=false
 | []=>rfl
 | a::x=>by
  rw [bytesLess,bl_irrefl x]
  simp
theorem bl_trans:∀{x y z:List UInt8},bytesLess x y=true→bytesLess y z=true→bytesLess x z=true
 | _,[],_,h,_=>by simp [bytesLess] at h
 | _,_::_,[],_,h=>by simp [bytesLess] at h
 | [],_::_,_::_,_,_=>rfl
 | a::x,b::y,c::z,h1,h2=>by
  rw [bytesLess] at *
  simp only [Bool.or_eq_true,Bool.and_eq_true,decide_eq_true_eq,beq_iff_eq] at *
  rcases h1 with h1|⟨rfl,h1⟩
  ·rcases h2 with h2|⟨rfl,h2⟩
   ·exact .inl (UInt8.lt_trans h1 h2)
   ·exact .inl h1
  ·rcases h2 with h2|⟨rfl,h2⟩
   ·exact .inl h2
   ·exact .inr ⟨rfl,bl_trans h1 h2⟩
theorem bl_total:∀{x y:List UInt8},bytesLess x y=false→bytesLess y x=false→x=y
 | [],[],_,_=>rfl
 | [],_::_,h,_=>by simp [bytesLess] at h
 | _::_,[],_,h=>by simp [bytesLess] at h
 | a::x,b::y,h1,h2=>by
  rw [bytesLess] at *
  simp only [Bool.or_eq_false_iff,Bool.and_eq_false_iff,decide_eq_false_iff_not,beq_eq_false_iff_ne] at *
  have e:a=b:=by
   have p1:=h1.1
   have p2:=h2.1
   rw [UInt8.lt_iff_toNat_lt] at p1 p2
   exact UInt8.toNat.inj (by omega)
  subst e
  rw [bl_total (h1.2.resolve_left (fun h=>h rfl)) (h2.2.resolve_left (fun h=>h rfl))]
def lt (a b:ByteArray):Bool:=bytesLess a.toList b.toList
theorem toList_inj {a b:ByteArray} (h:a.toList=b.toList):a=b:=by
 rw [ByteArray.toList_eq,ByteArray.toList_eq] at h
 exact ByteArray.ext (Array.ext' h)
theorem lt_irrefl (a:ByteArray):lt a a=false:=bl_irrefl _
theorem lt_trans {a b c:ByteArray} (h1:lt a b=true) (h2:lt b c=true):lt a c=true:=bl_trans h1 h2
theorem lt_total {a b:ByteArray} (h1:lt a b=false) (h2:lt b a=false):a=b:=toList_inj (bl_total h1 h2)
theorem lt_asymm {a b:ByteArray} (h:lt a b=true):lt b a=false:=by
 cases h2:lt b a
 ·rfl
 ·have:=lt_trans h h2
  rw [lt_irrefl] at this
  cases this
theorem lt_empty {b:ByteArray} (h:1≤b.size):lt ⟨#[]⟩ b=true:=by
 unfold lt
 have h1:(⟨#[]⟩:ByteArray).toList=[]:=by rw [ByteArray.toList_eq]
 rw [h1]
 cases hb:b.toList with
 | nil =>
  rw [ByteArray.toList_eq] at hb
  have:b.data.toList.length=0:=by rw [hb];rfl
  have h2:b.data.toList.length=b.size:=rfl
  omega
 | cons x l=>rfl
end LtR
end Go.Proofs.YtnceeaccbcfopaaGreatDoor
