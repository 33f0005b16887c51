/-
  Arithmetic alone: leap years, the days of months and years, and which year and month a day lies in. No condition.
-/
import Derived.Test.YtnceeaccbcfopaaGreatDoorT22
namespace Go.Proofs.YtnceeaccbcfopaaGreatDoor
namespace DateM
def leapB (y:Int):Bool:=decide (y % 4=0∧(y % 100≠0∨y % 400=0))
def yd (y:Int):Int:=if leapB y=true then 366 else 365
def md (y m:Int):Int:=if m=2 then (if leapB y=true then 29 else 28) else if m=4∨m=6∨m=9∨m=11 then 30 else 31
def mdays (y m:Int):Int:=if 1970≤y∧y≤2200∧1≤m∧m≤12 then md y m else 0
def ys:Nat→Int
 | 0=>0
 | k+1=>ys k+yd (1970+(k:Int))
def ms (y:Int):Nat→Int
 | 0=>0
 | k+1=>ms y k+md y ((k:Int)+1)
theorem yd_bd (y:Int):365≤yd y∧yd y≤366:=by unfold yd;split<;>omega
theorem md_bd (y m:Int):28≤md y m∧md y m≤31:=by unfold md;split<;>(try split)<;>(try split)<;>omega
theorem ys_succ (k:Nat):ys (k+1)=ys k+yd (1970+(k:Int)):=rfl
theorem ms_succ (y:Int) (k:Nat):ms y (k+1)=ms y k+md y ((k:Int)+1):=rfl
theorem ys_bd (k:Nat):365*(k:Int)≤ys k∧ys k≤366*(k:Int):=by
 induction k with
 | zero=>simp [ys]
 | succ k ih=>have:=yd_bd (1970+(k:Int));rw [ys_succ];omega
theorem ms_bd (y:Int) (k:Nat):28*(k:Int)≤ms y k∧ms y k≤31*(k:Int):=by
 induction k with
 | zero=>simp [ms]
 | succ k ih=>have:=md_bd y ((k:Int)+1);rw [ms_succ];omega
theorem ms_all (y:Int):ms y 12=yd y:=by
 simp only [ms,md,yd]
 cases leapB y<;>decide
theorem ys_mono {j k:Nat} (h:j≤k):ys j+365*((k:Int)-j)≤ys k:=by
 induction k with
 | zero =>
  obtain rfl:j=0:=by omega
  simp
 | succ k ih =>
  by_cases e:j=k+1
  ·subst e;simp
  ·have:=ih (by omega)
   have:=yd_bd (1970+(k:Int))
   rw [ys_succ];omega
theorem ms_mono (y:Int) {j k:Nat} (h:j≤k):ms y j+28*((k:Int)-j)≤ms y k:=by
 induction k with
 | zero =>
  obtain rfl:j=0:=by omega
  simp
 | succ k ih =>
  by_cases e:j=k+1
  ·subst e;simp
  ·have:=ih (by omega)
   have:=md_bd y ((k:Int)+1)
   rw [ms_succ];omega
theorem year_is (d:Int) (h:0≤d):∃k:Nat,ys k≤d∧d<ys (k+1):=by
 obtain ⟨n,rfl⟩:∃n:Nat,d=n:=⟨d.toNat,by omega⟩
 induction n with
 | zero=>exact ⟨0,by simp [ys],by have:=ys_bd 1;simp at this ⊢;omega⟩
 | succ n ih =>
  obtain ⟨k,h1,h2⟩:=ih (by omega)
  by_cases e:((n+1:Nat):Int)<ys (k+1)
  ·exact ⟨k,by omega,e⟩
  ·refine ⟨k+1,by omega,?_⟩
   have:=yd_bd (1970+((k+1:Nat):Int))
   rw [ys_succ (k+1)];omega
theorem month_is (y d:Int) (h:0≤d) (h2:d<yd y):∃k:Nat,k<12∧ms y k≤d∧d<ms y (k+1):=by
 have key:∀j:Nat,j≤12→ms y j≤d∨∃k:Nat,k<12∧ms y k≤d∧d<ms y (k+1):=by
  intro j
  induction j with
  | zero=>intro _;left;simp [ms];exact h
  | succ j ih =>
   intro hj
   rcases ih (by omega) with h1|h1
   ·by_cases e:d<ms y (j+1)
    ·exact .inr ⟨j,by omega,h1,e⟩
    ·exact .inl (by omega)
   ·exact .inr h1
 rcases key 12 (Nat.le_refl _) with h1|h1
 ·rw [ms_all] at h1;omega
 ·exact h1
def rightB (y m d:Int):Bool:=decide (1≤d∧d≤mdays y m)
theorem right_iff (y m d:Int):rightB y m d=true↔1970≤y∧y≤2200∧1≤m∧m≤12∧1≤d∧d≤md y m:=by
 unfold rightB mdays
 simp only [decide_eq_true_eq]
 split<;>omega
def num (y m d:Int):Int:=d-1+ys (y-1970).toNat+ms y (m-1).toNat
end DateM
end Go.Proofs.YtnceeaccbcfopaaGreatDoor
