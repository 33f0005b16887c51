/-
  Small parts of joining windows: how two numbers stand, two of one hour, the sums of both. The conditions: sums that are far from running over.
-/
import Derived.Test.YteejpnkmnmoebaaDoorJ16
namespace Go.Proofs.YteejpnkmnmoebaaDoor
open Go.ChangeShapes Go.WideShapes Go.ChangeAt Go.RowKit
set_option linter.unusedVariables false
namespace WinR
theorem nanI (x:Int) (w:World):Calls Tryd.prog 81 #[.int .i64 x] w fun e w'=>e=.returned (.bool false)∧w'=w:=by
 go_enter Tryd.func81,Tryd.ntmps81
 go_wp2
 go_ret
 exact ⟨by simp,rfl⟩
def cmpH (x y:Int):Int:=if x<y then -1 else if y<x then 1 else 0
theorem cmpI (x y:Int) (w:World):Calls Tryd.prog 73 #[.int .i64 x,.int .i64 y] w fun e w'=>e=.returned (.int .i64 (cmpH x y))∧w'=w:=by
 have HN:=H_ nanI
 unfold cmpH
 rcases (show x<y∨(¬x<y∧y<x)∨(¬x<y∧¬y<x) by omega) with h1|⟨h1,h2⟩|⟨h1,h2⟩
 ·rw [if_pos h1]
  go_enter Tryd.func73,Tryd.ntmps73
  go_wp2_with (first|(go_at_call 81;refine (HN.out _ _).mono ?_;rintro e w' ⟨rfl,rfl⟩))
  go_ret
  exact ⟨by first|rfl|simp,rfl⟩
 ·rw [if_neg h1,if_pos h2]
  go_enter Tryd.func73,Tryd.ntmps73
  go_wp2_with (first|(go_at_call 81;refine (HN.out _ _).mono ?_;rintro e w' ⟨rfl,rfl⟩))
  go_ret
  exact ⟨by first|rfl|simp,rfl⟩
 ·rw [if_neg h1,if_neg h2]
  go_enter Tryd.func73,Tryd.ntmps73
  go_wp2_with (first|(go_at_call 81;refine (HN.out _ _).mono ?_;rintro e w' ⟨rfl,rfl⟩))
  go_ret
  exact ⟨by first|rfl|simp,rfl⟩
theorem hmeet (x y:H) (w:World) (hx:0≤x.s∧x.s≤1000000000000000) (hy:0≤y.s∧y.s≤1000000000000000):Calls Tryd.prog 63 #[.agg #[.int .i64 x.h,.int .i64 x.s],.agg #[.int .i64 y.h,.int .i64 y.s]] w fun e w'=>e=.returned (.agg #[.int .i64 (addH x y).h,.int .i64 (addH x y).s])∧Below w.heap.size w w':=by
 obtain ⟨a,s⟩:=x
 obtain ⟨b,t⟩:=y
 unfold addH
 dsimp only at *
 go_enter Tryd.func63,Tryd.ntmps63
 go_wp2_with fail
 refine bodyPost_ret (v:=.agg #[.int .i64 a,.int .i64 (s+t)]) (by simp [results,Tryd.results63,go_sem]) rfl ⟨rfl,?_⟩
 repeat' first|exact Below.refl _ _|apply Below.setCell|apply Below.alloc
 all_goals first|omega|(simp;done)|(simp;omega)
theorem splus (e1 s1 m1 e2 s2 m2:Int) (w:World) (h1:0≤e1∧e1≤1000000000000000) (h2:0≤e2∧e2≤1000000000000000) (h3:0≤s1∧s1≤1000000000000000) (h4:0≤s2∧s2≤1000000000000000) :
 Calls Tryd.prog 41 #[.agg #[.int .i64 e1,.int .i64 s1,.int .i64 m1],.agg #[.int .i64 e2,.int .i64 s2,.int .i64 m2]] w fun e w'=>e=.returned (.agg #[.int .i64 (e1+e2),.int .i64 (s1+s2),.int .i64 (max m1 m2)])∧Below w.heap.size w w':=by
 by_cases h:m1<m2
 ·rw [show max m1 m2=m2 by omega]
  go_enter Tryd.func41,Tryd.ntmps41
  go_wp2_with fail
  refine bodyPost_ret (v:=.agg #[.int .i64 (e1+e2),.int .i64 (s1+s2),.int .i64 m2]) (by simp [results,Tryd.results41,go_sem]) rfl ⟨rfl,?_⟩
  repeat' first|exact Below.refl _ _|apply Below.setCell|apply Below.alloc
  all_goals first|omega|(simp;done)|(simp;omega)
 ·rw [show max m1 m2=m1 by omega]
  go_enter Tryd.func41,Tryd.ntmps41
  go_wp2_with fail
  refine bodyPost_ret (v:=.agg #[.int .i64 (e1+e2),.int .i64 (s1+s2),.int .i64 m1]) (by simp [results,Tryd.results41,go_sem]) rfl ⟨rfl,?_⟩
  repeat' first|exact Below.refl _ _|apply Below.setCell|apply Below.alloc
  all_goals first|omega|(simp;done)|(simp;omega)
end WinR
end Go.Proofs.YteejpnkmnmoebaaDoor
