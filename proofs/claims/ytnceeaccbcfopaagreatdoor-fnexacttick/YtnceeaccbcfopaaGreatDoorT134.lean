/-
  What strings.Compare hands back, against the order of texts. No condition.
-/
import Derived.Test.YtnceeaccbcfopaaGreatDoorT133
namespace Go.Proofs.YtnceeaccbcfopaaGreatDoor
open Go.ChangeShapes Go.WideShapes Go.ChangeAt Go.RowKit
set_option linter.unusedVariables false
namespace WinR
open LtR
open Go.Op (bytesLess)
theorem cmp_cases:∀(a b:List UInt8),(Lib.compareBytes a b=-1∧bytesLess a b=true∧a≠b)∨(Lib.compareBytes a b=0∧bytesLess a b=false∧a=b)∨(Lib.compareBytes a b=1∧bytesLess a b=false∧a≠b)
 | [],[]=>.inr (.inl ⟨rfl,rfl,rfl⟩)
 | [],_::_=>.inl ⟨rfl,rfl,by simp⟩
 | _::_,[]=>.inr (.inr ⟨rfl,rfl,by simp⟩)
 | a::xs,b::ys=>by
  unfold Lib.compareBytes bytesLess
  by_cases h1:a<b
  ·have hne:a≠b:=fun e=>by subst e;exact absurd h1 (by simp)
   exact .inl ⟨by rw [if_pos h1],by simp [h1],by simp [hne]⟩
  ·rw [if_neg h1]
   by_cases h2:b<a
   ·have hne:a≠b:=fun e=>by subst e;exact absurd h2 (by simp)
    exact .inr (.inr ⟨by rw [if_pos h2],by simp [h1,hne],by simp [hne]⟩)
   ·rw [if_neg h2]
    obtain rfl:a=b:=UInt8.le_antisymm (UInt8.not_lt.1 h2) (UInt8.not_lt.1 h1)
    rcases cmp_cases xs ys with ⟨c1,c2,c3⟩|⟨c1,c2,c3⟩|⟨c1,c2,c3⟩
    ·exact .inl ⟨c1,by simp [c2],by simp [c3]⟩
    ·exact .inr (.inl ⟨c1,by simp [c2],by simp [c3]⟩)
    ·exact .inr (.inr ⟨c1,by simp [c2],by simp [c3]⟩)
def cb (x y:ByteArray):Int:=Lib.compareBytes x.data.toList y.data.toList
theorem cb_cases (x y:ByteArray):(cb x y=-1∧lt x y=true∧x≠y)∨(cb x y=0∧lt x y=false∧x=y)∨(cb x y=1∧lt x y=false∧x≠y):=by
 have e:∀z:ByteArray,z.toList=z.data.toList:=fun z=>by first|rfl|simp|exact ByteArray.toList_eq z
 unfold cb lt
 rw [e,e]
 rcases cmp_cases x.data.toList y.data.toList with ⟨c1,c2,c3⟩|⟨c1,c2,c3⟩|⟨c1,c2,c3⟩
 ·exact .inl ⟨c1,c2,fun h=>c3 (by rw [h])⟩
 ·exact .inr (.inl ⟨c1,c2,ByteArray.ext (Array.toList_inj.1 c3)⟩)
 ·exact .inr (.inr ⟨c1,c2,fun h=>c3 (by rw [h])⟩)
theorem icb (x y:ByteArray) (w:World):Calls Tryz.prog 179 #[.string x,.string y] w fun e w'=>e=.returned (.int .i64 (cb x y))∧w'=w:=Tryz.strings_Compare x y w
end WinR
end Go.Proofs.YtnceeaccbcfopaaGreatDoor
