/-
  What is right of tiers, meters, credits and catalogs, in numbers. No condition.
-/
import Derived.Test.YtnceeaccbcfopaaGreatDoorT34
namespace Go.Proofs.YtnceeaccbcfopaaGreatDoor
open Go.RowKit
set_option linter.unusedVariables false
namespace CatR
def tU (ts:List Ti) (i:Nat):Int:=(ts.getD i Ti.zero).u
def tP (ts:List Ti) (i:Nat):Int:=(ts.getD i Ti.zero).p
def tA (ts:List Ti):Nat→Int
 | 0=>0
 | k+1=>tU ts k
def TOk (ts:List Ti) (k:Nat):Prop:=∀i,i<k→tA ts i<tU ts i∧0≤tP ts i∧tP ts i≤1000000
def TRight (ts:List Ti):Prop:=1≤ts.length∧ts.length≤5∧TOk ts ts.length∧tA ts ts.length=1000000000000
theorem TOk.zero (ts:List Ti):TOk ts 0:=fun i h=>absurd h (by omega)
theorem TOk.more {ts:List Ti} {k:Nat} (h:TOk ts k) (h1:tA ts k<tU ts k) (h2:0≤tP ts k) (h3:tP ts k≤1000000):TOk ts (k+1):=by
 intro i hi
 by_cases e:i=k
 ·subst e;exact ⟨h1,h2,h3⟩
 ·exact h i (by omega)
theorem TOk.rise {ts:List Ti} {n:Nat} (h:TOk ts n):∀i,i≤n→0≤tA ts i∧∀j,j≤i→tA ts j≤tA ts i
 | 0,_=>⟨by simp [tA],fun j hj=>by
  obtain rfl:j=0:=by omega
  exact Int.le_refl _⟩
 | i+1,hi=>by
  obtain ⟨a,b⟩:=TOk.rise h i (by omega)
  have c:=(h i (by omega)).1
  have d:tA ts (i+1)=tU ts i:=rfl
  refine ⟨by omega,fun j hj=>?_⟩
  by_cases e:j=i+1
  ·subst e;exact Int.le_refl _
  ·have:=b j (by omega)
   omega
theorem TRight.upto {ts:List Ti} (h:TRight ts) (k:Nat) (hk:k<ts.length):1≤tU ts k∧tU ts k≤1000000000000:=by
 obtain ⟨_,_,h3,h4⟩:=h
 have a:=(h3.rise ts.length (Nat.le_refl _)).2 (k+1) (by omega)
 have b:=(h3.rise k (by omega)).1
 have c:=(h3 k hk).1
 have d:tA ts (k+1)=tU ts k:=rfl
 omega
def MRight (m:Me):Prop:=NameR.nameB m.n=true∧(1≤m.g∧m.g≤4)∧(0≤m.f∧m.f≤1000000000)∧(0≤m.l∧m.l≤1000000000000)∧TRight m.ts
def TOkDec (ts:List Ti) (k:Nat):Decidable (TOk ts k):=inferInstanceAs (Decidable (∀i,i<k→tA ts i<tU ts i∧0≤tP ts i∧tP ts i≤1000000))
def TRightDec (ts:List Ti):Decidable (TRight ts) :=
 haveI:=TOkDec ts ts.length
 inferInstanceAs (Decidable (1≤ts.length∧ts.length≤5∧TOk ts ts.length∧tA ts ts.length=1000000000000))
def MRightDec (m:Me):Decidable (MRight m) :=
 haveI:=TRightDec m.ts
 inferInstanceAs (Decidable (NameR.nameB m.n=true∧(1≤m.g∧m.g≤4)∧(0≤m.f∧m.f≤1000000000)∧(0≤m.l∧m.l≤1000000000000)∧TRight m.ts))
def tB (ts:List Ti):Bool:=@decide (TRight ts) (TRightDec ts)
def mB (m:Me):Bool:=@decide (MRight m) (MRightDec m)
theorem tB_no {ts:List Ti} (h:¬TRight ts):tB ts=false:=by unfold tB;exact @decide_eq_false _ (TRightDec ts) h
theorem tB_yes {ts:List Ti} (h:TRight ts):tB ts=true:=by unfold tB;exact @decide_eq_true _ (TRightDec ts) h
theorem tB_false {ts:List Ti} {k:Nat} (hk:k<ts.length) (h:¬(tA ts k<tU ts k∧0≤tP ts k∧tP ts k≤1000000)):tB ts=false:=tB_no (fun hr=>h (hr.2.2.1 k hk))
theorem tB_over {ts:List Ti} {k:Nat} (hk:k<ts.length) (h:¬(1≤tU ts k∧tU ts k≤1000000000000)):tB ts=false:=tB_no (fun hr=>h (hr.upto k hk))
theorem tB_end {ts:List Ti} (h1:1≤ts.length) (h5:ts.length≤5) (h:TOk ts ts.length):tB ts=decide (tA ts ts.length=1000000000000):=by
 by_cases e:tA ts ts.length=1000000000000
 ·rw [decide_eq_true e];exact tB_yes ⟨h1,h5,h,e⟩
 ·rw [decide_eq_false e];exact tB_no (fun hr=>e hr.2.2.2)
theorem mB_eq (m:Me):mB m=(NameR.nameB m.n&&decide (1≤m.g∧m.g≤4)&&decide (0≤m.f∧m.f≤1000000000)&&decide (0≤m.l∧m.l≤1000000000000)&&tB m.ts):=by
 unfold mB tB
 rw [Bool.eq_iff_iff]
 simp only [decide_eq_true_eq,Bool.and_eq_true]
 unfold MRight
 constructor
 ·rintro ⟨a,b,c,d,e⟩;exact ⟨⟨⟨⟨a,b⟩,c⟩,d⟩,e⟩
 ·rintro ⟨⟨⟨⟨a,b⟩,c⟩,d⟩,e⟩;exact ⟨a,b,c,d,e⟩
end CatR
end Go.Proofs.YtnceeaccbcfopaaGreatDoor
