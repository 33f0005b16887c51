/-
  A right minute's month: both sides hand back the same; whether an hour lies in a month. The condition: the program's table stands in its variable.
-/
import Derived.Test.YtnceeaccbcfopaaGreatDoorT73
namespace Go.Proofs.YtnceeaccbcfopaaGreatDoor
open Go.ChangeShapes Go.WideShapes Go.ChangeAt Go.RowKit
set_option linter.unusedVariables false
namespace WinR
open DateM DateR
theorem impl_month_in (n y m d:Int) (h1:0≤n) (h2:n≤121000000) (hy1:1970≤y) (hy2:y≤2200) (hm1:1≤m) (hm2:m≤12) (w:World) (hL:Laid w)
 (hd:∀w,Laid w→Calls Tryz.prog 227 #[.int .i64 (n.tdiv 1440)] w fun e w'=>e=.returned (date y m d)∧Below w.heap.size w w') :
 Calls Tryz.prog 226 #[.int .i64 n] w fun e w'=>e=.returned (.int .i64 (12*(y-1970)+(m-1)))∧Below w.heap.size w w':=by
 have hb:0≤n.tdiv 1440∧n.tdiv 1440≤121000000:=by rw [Int.tdiv_eq_ediv_of_nonneg h1];omega
 obtain ⟨b1,b2⟩:=hb
 generalize hq:n.tdiv 1440=q at *
 have HD:=H_ hd
 have HL:=H_ hL
 clear hd hL
 unfold date at *
 go_enter Tryz.func226,Tryz.ntmps226
 go_wp2_with (first|(go_at_call 122;go_in)|(go_at_call 30;go_in)|(go_at_call 227;(try rw [hq]);refine (HD.out _ HL.out).mono ?_;rintro e w1 ⟨rfl,hb1⟩))
 go_ret
 exact ⟨ret_int (by omega),hb1.alloc hb1.size _⟩
theorem spec_month_in (n y m d:Int) (h1:0≤n) (h2:n≤121000000) (hy1:1970≤y) (hy2:y≤2200) (hm1:1≤m) (hm2:m≤12) (w:World)
 (hd:∀w,Calls Tryz.prog 192 #[.int .i64 (n.tdiv 1440)] w fun e w'=>e=.returned (date y m d)∧Below w.heap.size w w') :
 Calls Tryz.prog 155 #[.int .i64 n] w fun e w'=>e=.returned (.int .i64 (12*(y-1970)+(m-1)))∧Below w.heap.size w w':=by
 have hb:0≤n.tdiv 1440∧n.tdiv 1440≤121000000:=by rw [Int.tdiv_eq_ediv_of_nonneg h1];omega
 obtain ⟨b1,b2⟩:=hb
 generalize hq:n.tdiv 1440=q at *
 have HD:=H_ hd
 clear hd
 unfold date at *
 go_enter Tryz.func155,Tryz.ntmps155
 go_wp2_with (first|(go_at_call 192;(try rw [hq]);refine (HD.out _).mono ?_;rintro e w1 ⟨rfl,hb1⟩))
 go_ret
 exact ⟨ret_int (by omega),hb1.alloc hb1.size _⟩
theorem month_two (n:Int) (h1:0≤n) (h2:n≤121000000):∃k:Nat,k≤2771∧fd k≤n / 1440∧n / 1440<fd (k+1)∧(∀w,Laid w→Calls Tryz.prog 226 #[.int .i64 n] w fun e w'=>e=.returned (.int .i64 (k:Int))∧Below w.heap.size w w')∧(∀w,Calls Tryz.prog 155 #[.int .i64 n] w fun e w'=>e=.returned (.int .i64 (k:Int))∧Below w.heap.size w w'):=by
 obtain ⟨y,m,d,hd,hi,hs⟩:=dateof_both (n.tdiv 1440)
 have e:n.tdiv 1440=n / 1440:=Int.tdiv_eq_ediv_of_nonneg h1
 have:=ys_231
 rcases hd with ⟨_,_,hr,hn⟩|⟨hx,_⟩
 ·obtain ⟨k,k1,k2,k3,k4⟩:=num_fd y m d hr
  obtain ⟨y1,y2,m1,m2,_,_⟩:=(right_iff y m d).1 hr
  exact ⟨k,k1,by omega,by omega,fun w hL=>by rw [←k2];exact impl_month_in n y m d h1 h2 y1 y2 m1 m2 w hL hi,fun w=>by rw [←k2];exact spec_month_in n y m d h1 h2 y1 y2 m1 m2 w hs⟩
 ·omega
theorem impl_hour_of (h mo:Int) (w:World) (hL:Laid w) :
 Calls Tryz.prog 223 #[.int .i64 h,.int .i64 mo] w fun e w'=>e=.returned (.bool (hourIn h mo))∧Below w.heap.size w w':=by
 rcases (show (¬0≤h)∨(0≤h∧¬h≤2016666)∨(0≤h∧h≤2016666) by omega) with q|⟨q,q2⟩|⟨q,q2⟩
 ·rw [hour_far (fun x=>q x.1)]
  clear hL
  go_enter Tryz.func223,Tryz.ntmps223
  go_wp2_with (go_at_call 30;go_in)
  go_ret
  exact ⟨rfl,Below.refl _ _⟩
 ·rw [hour_far (fun x=>q2 x.2)]
  clear hL
  go_enter Tryz.func223,Tryz.ntmps223
  go_wp2_with (go_at_call 30;go_in)
  go_ret
  exact ⟨rfl,Below.refl _ _⟩
 ·obtain ⟨k,k1,f1,f2,hi,hs⟩:=month_two (60*h) (by omega) (by omega)
  rw [hour_month q q2 k rfl f1 f2]
  have HI:=H_ (hi w hL)
  clear hL hi hs f1 f2
  have hm:h*60=60*h:=by omega
  generalize hq:60*h=n at *
  by_cases he:(k:Int)=mo
  ·subst he
   rw [decide_eq_true rfl]
   go_enter Tryz.func223,Tryz.ntmps223
   go_wp2_with (first|(go_at_call 30;go_in)|(go_at_call 226;(try rw [hm]);refine HI.out.mono ?_;rintro e w1 ⟨rfl,hb1⟩))
   go_ret
   exact ⟨rfl,hb1⟩
  ·rw [decide_eq_false he]
   have he2:((k:Int)==mo)=false:=by simpa using he
   go_enter Tryz.func223,Tryz.ntmps223
   go_wp2_with (first|(go_at_call 30;go_in)|(go_at_call 226;(try rw [hm]);refine HI.out.mono ?_;rintro e w1 ⟨rfl,hb1⟩))
   go_ret
   exact ⟨ret_bool (by first|rfl|simpa using he),hb1⟩
end WinR
end Go.Proofs.YtnceeaccbcfopaaGreatDoor
