/-
  Arithmetic alone: the first day of a month that is counted from January 1970, and which month a right date lies in. No condition.
-/
import Derived.Test.YtnceeaccbcfopaaGreatDoorT23
namespace Go.Proofs.YtnceeaccbcfopaaGreatDoor
namespace DateM
def fd (k:Nat):Int:=ys (k / 12)+ms (1970+((k / 12:Nat):Int)) (k % 12)
theorem fd_num (k:Nat):num (1970+(k:Int) / 12) ((k:Int) % 12+1) 1=fd k:=by
 unfold num fd
 rw [show (1970+(k:Int) / 12-1970).toNat=k / 12 by omega,show ((k:Int) % 12+1-1).toNat=k % 12 by omega,show ((k / 12:Nat):Int)=(k:Int) / 12 by omega]
 omega
theorem fd_succ (k:Nat):fd (k+1)=fd k+md (1970+((k / 12:Nat):Int)) (((k % 12:Nat):Int)+1):=by
 unfold fd
 by_cases h:k % 12=11
 ·rw [show (k+1) / 12=k / 12+1 by omega,show (k+1) % 12=0 by omega,ys_succ,←ms_all,h,ms_succ]
  simp only [ms]
  omega
 ·rw [show (k+1) / 12=k / 12 by omega,show (k+1) % 12=k % 12+1 by omega,ms_succ]
  omega
theorem fd_step (k:Nat):fd k+28≤fd (k+1)∧fd (k+1)≤fd k+31:=by
 rw [fd_succ]
 have:=md_bd (1970+((k / 12:Nat):Int)) (((k % 12:Nat):Int)+1)
 omega
theorem fd_zero:fd 0=0:=by simp [fd,ys,ms]
theorem fd_mono {j k:Nat} (h:j≤k):fd j+28*((k:Int)-j)≤fd k:=by
 induction k with
 | zero =>
  obtain rfl:j=0:=by omega
  simp
 | succ k ih =>
  by_cases e:j=k+1
  ·subst e;simp
  ·have:=ih (by omega)
   have:=fd_step k
   omega
theorem fd_bd (k:Nat):0≤fd k∧fd k≤31*(k:Int):=by
 induction k with
 | zero=>simp [fd_zero]
 | succ k ih=>have:=fd_step k;omega
theorem fd_one {d:Int} {j k:Nat} (h1:fd j≤d) (h2:d<fd (k+1)):j≤k:=by
 apply Nat.le_of_not_lt
 intro h
 have:=fd_mono (show k+1≤j from h)
 omega
theorem num_fd (y m d:Int) (h:rightB y m d=true):∃k:Nat,k≤2771∧12*(y-1970)+(m-1)=(k:Int)∧fd k≤num y m d∧num y m d<fd (k+1):=by
 obtain ⟨y1,y2,m1,m2,d1,d2⟩:=(right_iff y m d).1 h
 refine ⟨(12*(y-1970)+(m-1)).toNat,by omega,by omega,?_⟩
 have e1:(12*(y-1970)+(m-1)).toNat / 12=(y-1970).toNat:=by omega
 have e2:(12*(y-1970)+(m-1)).toNat % 12=(m-1).toNat:=by omega
 rw [fd_succ]
 unfold fd num
 rw [e1,e2,show 1970+(((y-1970).toNat:Nat):Int)=y by omega,show (((m-1).toNat:Nat):Int)+1=m by omega]
 omega
theorem ys_nat:∀k:Nat,k≤231→ys k=((List.range k).foldl (fun (a:Int) (j:Nat)=>a+yd (1970+(j:Int))) 0):=by
 intro k _
 induction k with
 | zero=>rfl
 | succ k ih=>rw [List.range_succ,List.foldl_append,←ih (by omega)];rfl
theorem ys_231:84028≤ys 231:=by rw [ys_nat 231 (by omega)];decide +kernel
theorem right_first (k:Nat) (h:k≤2760):rightB (1970+(k:Int) / 12) ((k:Int) % 12+1) 1=true:=by
 have:=md_bd (1970+(k:Int) / 12) ((k:Int) % 12+1)
 exact (right_iff _ _ _).2 ⟨by omega,by omega,by omega,by omega,by omega,by omega⟩
end DateM
end Go.Proofs.YtnceeaccbcfopaaGreatDoor
