/-
  A month's first minute, on both sides. The condition: the program's table stands in its variable.
-/
import Derived.Test.YtnceeaccbcfopaaGreatDoorT99
namespace Go.Proofs.YtnceeaccbcfopaaGreatDoor
open Go.ChangeShapes Go.WideShapes Go.ChangeAt Go.RowKit
set_option linter.unusedVariables false
namespace DateR
open DateM
theorem mon_divE (k:Nat):(k:Int).tdiv 12=((k / 12:Nat):Int)∧(k:Int).tmod 12=((k % 12:Nat):Int):=by
 rw [Int.tdiv_eq_ediv_of_nonneg (by omega),Int.tmod_eq_emod_of_nonneg (by omega)];omega
theorem first_anyE (k a b:Nat) (hk:k≤2760) (ha:(k:Int).tdiv 12=(a:Int)) (hb:(k:Int).tmod 12=(b:Int)) (ha2:a≤230) (hb2:b≤11) (w:World) :
 Calls Tryz.prog 172 #[.int .i64 k] w fun e w'=>e=.returned (date (1970+(a:Int)) ((b:Int)+1) 1)∧Below w.heap.size w w':=by
 go_enter Tryz.func172,Tryz.ntmps172
 go_wp2_with fail
 refine bodyPost_ret (v:=date (1970+(a:Int)) ((b:Int)+1) 1) (by simp [date,results,Tryz.results172,go_sem]) rfl ⟨rfl,?_⟩
 repeat' first|exact Below.refl _ _|apply Below.setCell|apply Below.alloc
 all_goals first|omega|(simp;done)|(simp;omega)
theorem impl_start_inE (k a b:Nat) (D:Int) (hk:k≤2760) (ha:(k:Int).tdiv 12=(a:Int)) (hb:(k:Int).tmod 12=(b:Int)) (ha2:a≤230) (hb2:b≤11) (hD:0≤D) (hD2:D≤100000) (w:World) (hL:Laid w)
 (hd:∀w,Laid w→Calls Tryz.prog 171 #[date (1970+(a:Int)) ((b:Int)+1) 1] w fun e w'=>e=.returned (.int .i64 D)∧Below w.heap.size w w') :
 Calls Tryz.prog 125 #[.int .i64 k] w fun e w'=>e=.returned (.int .i64 (D*1440))∧Below w.heap.size w w':=by
 have HD:=H_ hd
 have HL:=H_ hL
 clear hd hL
 have k2:(k:Int)≤2760:=by omega
 have HF:=H_ (fun w=>first_anyE k a b hk ha hb ha2 hb2 w)
 unfold date at *
 go_enter Tryz.func125,Tryz.ntmps125
 go_wp2_with (first|(go_at_call 73;go_in)|(go_at_call 30;go_in)|(go_at_call 172;refine (HF.out _).mono ?_;rintro e w1 ⟨rfl,hb1⟩)|(go_at_call 171;refine (HD.out _ (HL.out.below hb1)).mono ?_;rintro e w2 ⟨rfl,hb2⟩))
 go_ret
 exact ⟨rfl,hb1.trans (hb2.mono hb1.size)⟩
theorem spec_start_inE (k a b:Nat) (D:Int) (hk:k≤2760) (ha:(k:Int).tdiv 12=(a:Int)) (hb:(k:Int).tmod 12=(b:Int)) (ha2:a≤230) (hb2:b≤11) (hD:0≤D) (hD2:D≤100000) (w:World)
 (hd:∀w,Calls Tryz.prog 112 #[date (1970+(a:Int)) (1+(b:Int)) 1] w fun e w'=>e=.returned (.int .i64 D)∧Below w.heap.size w w') :
 Calls Tryz.prog 59 #[.int .i64 k] w fun e w'=>e=.returned (.int .i64 (D*1440))∧Below w.heap.size w w':=by
 have HD:=H_ hd
 clear hd
 have k2:(k:Int)≤2760:=by omega
 unfold date at *
 go_enter Tryz.func59,Tryz.ntmps59
 go_wp2_with (first|(go_at_call 112;refine (HD.out _).mono ?_;rintro e w1 ⟨rfl,hb1⟩))
 go_ret
 exact ⟨ret_int (by omega),hb1⟩
theorem start_eng (m:Int) (h1:0≤m) (h2:m≤2760):∃v:Int,(∀w,Laid w→Calls Tryz.prog 125 #[.int .i64 m] w fun e w'=>e=.returned (.int .i64 v)∧Below w.heap.size w w')∧(∀w,Calls Tryz.prog 59 #[.int .i64 m] w fun e w'=>e=.returned (.int .i64 v)∧Below w.heap.size w w'):=by
 obtain ⟨k,rfl⟩:∃k:Nat,m=k:=⟨m.toNat,by omega⟩
 have hr:=right_first k (by omega)
 have hn:=fd_num k
 have bd:=fd_bd k
 rw [show (k:Int) / 12=((k / 12:Nat):Int) by omega,show (k:Int) % 12=((k % 12:Nat):Int) by omega] at hr hn
 obtain ⟨e1,e2⟩:=mon_divE k
 have hi:=fun w hL=>impl_dayof_in (1970+((k / 12:Nat):Int)) (((k % 12:Nat):Int)+1) 1 w hL hr
 have hs:=fun w=>spec_dayof_in (1970+((k / 12:Nat):Int)) (((k % 12:Nat):Int)+1) 1 w hr
 rw [hn] at hi hs
 rw [Int.add_comm ((k % 12:Nat):Int) 1] at hs
 exact ⟨_,fun w hL=>impl_start_inE k (k / 12) (k % 12) (fd k) (by omega) e1 e2 (by omega) (by omega) (by omega) (by omega) w hL hi,
  fun w=>spec_start_inE k (k / 12) (k % 12) (fd k) (by omega) e1 e2 (by omega) (by omega) (by omega) (by omega) w hs⟩
end DateR
end Go.Proofs.YtnceeaccbcfopaaGreatDoor
