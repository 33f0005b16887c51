/-
  Leap years, and the days of the week: either side tells the same. No condition.
-/
import Derived.Test.YtnceeaccbcfopaaGreatDoorT66
namespace Go.Proofs.YtnceeaccbcfopaaGreatDoor
open Go.ChangeShapes Go.WideShapes Go.ChangeAt Go.RowKit
set_option linter.unusedVariables false
namespace DateR
open DateM
theorem H_ {p:Prop} (h:p):Hid p:=h
theorem tmod_iff (y k:Int):y.tmod k=0↔y % k=0:=⟨fun h=>Int.emod_eq_zero_of_dvd (Int.dvd_of_tmod_eq_zero h),fun h=>Int.tmod_eq_zero_of_dvd (Int.dvd_of_emod_eq_zero h)⟩
theorem leap_a (y:Int) (h1:y.tmod 4=0) (h2:y.tmod 100=0):(y.tmod 400==0)=leapB y:=by
 rw [tmod_iff] at h1 h2
 unfold leapB
 rw [Bool.eq_iff_iff,beq_iff_eq,decide_eq_true_eq,tmod_iff]
 omega
theorem leap_b (y:Int) (h1:y.tmod 4=0) (h2:¬y.tmod 100=0):true=leapB y:=by
 rw [tmod_iff] at h1 h2
 exact (decide_eq_true ⟨h1,.inl h2⟩).symm
theorem leap_c (y:Int) (h1:¬y.tmod 4=0):false=leapB y:=by
 rw [tmod_iff] at h1
 exact (decide_eq_false fun h=>h1 h.1).symm
theorem leap_d (y:Int) (h1:¬y.tmod 4=0):(y.tmod 400==0)=leapB y:=by
 rw [tmod_iff] at h1
 unfold leapB
 rw [Bool.eq_iff_iff,beq_iff_eq,decide_eq_true_eq,tmod_iff]
 omega
theorem impl_leap (y:Int) (w:World):Calls Tryz.prog 218 #[.int .i64 y] w fun e w'=>e=.returned (.bool (leapB y))∧w'=w:=by
 go_enter Tryz.func218,Tryz.ntmps218
 go_wp2
 ·go_ret
  exact ⟨ret_bool (leap_a y ‹_› ‹_›),rfl⟩
 ·go_ret
  exact ⟨ret_bool (leap_b y ‹_› ‹_›),rfl⟩
 ·go_ret
  exact ⟨ret_bool (leap_d y ‹_›),rfl⟩
theorem spec_leap (y:Int) (w:World):Calls Tryz.prog 194 #[.int .i64 y] w fun e w'=>e=.returned (.bool (leapB y))∧w'=w:=by
 go_enter Tryz.func194,Tryz.ntmps194
 go_wp2
 ·go_ret
  exact ⟨ret_bool (leap_a y ‹_› ‹_›),rfl⟩
 ·go_ret
  exact ⟨ret_bool (leap_b y ‹_› ‹_›),rfl⟩
 ·go_ret
  exact ⟨ret_bool (leap_c y ‹_›),rfl⟩
end DateR
end Go.Proofs.YtnceeaccbcfopaaGreatDoor
