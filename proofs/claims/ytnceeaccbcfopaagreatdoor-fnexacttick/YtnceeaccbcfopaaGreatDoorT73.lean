/-
  A day's date: both sides hand back the same; of a day within the years it is a right date, whose day is that one. The condition: the program's table stands in its variable.
-/
import Derived.Test.YtnceeaccbcfopaaGreatDoorT72
namespace Go.Proofs.YtnceeaccbcfopaaGreatDoor
open Go.ChangeShapes Go.WideShapes Go.ChangeAt Go.RowKit
set_option linter.unusedVariables false
namespace DateR
open DateM
theorem spec_dateof_none (day:Int) (h:day<0∨100000<day) (w:World) :
 Calls Tryz.prog 192 #[.int .i64 day] w fun e w'=>e=.returned (date 0 0 0)∧Below w.heap.size w w':=by
 have key:(¬0≤day)∨(0≤day∧¬day≤100000):=by omega
 clear h
 rcases key with h1|⟨h1,h2⟩
 all_goals
  go_enter Tryz.func192,Tryz.ntmps192
  go_wp2
  refine bodyPost_ret (v:=date 0 0 0) (by simp [date,results,Tryz.results192,go_sem]) rfl ⟨rfl,?_⟩
  repeat' first|exact Below.refl _ _|apply Below.setCell|apply Below.alloc
  all_goals first|omega|(simp;done)|(simp;omega)
theorem num_of (day:Int) (K J:Nat) (hK:K≤230) (hJ:J<12) (m1:ms (1970+(K:Int)) J≤day-ys K) (m2:day-ys K<ms (1970+(K:Int)) (J+1)) :
 rightB (1970+(K:Int)) ((J:Int)+1) (day-ys K-ms (1970+(K:Int)) J+1)=true∧num (1970+(K:Int)) ((J:Int)+1) (day-ys K-ms (1970+(K:Int)) J+1)=day:=by
 have e:=ms_succ (1970+(K:Int)) J
 refine ⟨(right_iff _ _ _).2 ⟨by omega,by omega,by omega,by omega,by omega,by omega⟩,?_⟩
 unfold num
 rw [show (1970+(K:Int)-1970).toNat=K by omega,show ((J:Int)+1-1).toNat=J by omega]
 omega
def DateOfIs (day y m d:Int):Prop:=(0≤day∧day<ys 231∧rightB y m d=true∧num y m d=day)∨(¬(0≤day∧day<ys 231)∧y=0∧m=0∧d=0)
theorem ys231:ys 231≤100000:=by have:=ys_bd 231;omega
theorem dateof_both (day:Int):∃y m d:Int,DateOfIs day y m d∧(∀w,Laid w→Calls Tryz.prog 227 #[.int .i64 day] w fun e w'=>e=.returned (date y m d)∧Below w.heap.size w w')∧(∀w,Calls Tryz.prog 192 #[.int .i64 day] w fun e w'=>e=.returned (date y m d)∧Below w.heap.size w w'):=by
 by_cases h:day<0∨100000<day
 ·have:=ys231
  exact ⟨0,0,0,.inr ⟨by omega,rfl,rfl,rfl⟩,fun w _=>impl_dateof_none day h w,fun w=>spec_dateof_none day h w⟩
 ·have d0:0≤day:=by omega
  have d1:day≤100000:=by omega
  obtain ⟨K,h1,h2⟩:=year_is day d0
  obtain ⟨J,hJ,m1,m2⟩:=month_is (1970+(K:Int)) (day-ys K) (by omega) (by have:=ys_succ K;omega)
  have hs:=fun w=>spec_dateof_in day K J d0 d1 h1 h2 m1 m2 hJ w
  unfold outOf at hs
  by_cases hK:K≤230
  ·rw [if_pos hK] at hs
   obtain ⟨n1,n2⟩:=num_of day K J hK hJ m1 m2
   have:=ys_mono (show K+1≤231 by omega)
   exact ⟨_,_,_,.inl ⟨d0,by omega,n1,n2⟩,fun w hL=>impl_dateof_in day K J d0 d1 h1 h2 hK m1 m2 hJ w hL,hs⟩
  ·rw [if_neg hK] at hs
   have:=ys_mono (show 231≤K by omega)
   exact ⟨0,0,0,.inr ⟨by omega,rfl,rfl,rfl⟩,fun w _=>impl_dateof_past day K d0 d1 h1 (by omega) w,hs⟩
end DateR
end Go.Proofs.YtnceeaccbcfopaaGreatDoor
