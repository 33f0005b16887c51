/-
  The days of a month, and whether a date is right: either side tells the same. The condition: the program's table stands in its variable.
-/
import Derived.Deep.QuietTactic
import Derived.BigQuiet
import Derived.Deep.RegionHeld3
import Derived.Deep.DrawnRows
import Derived.Test.YtnceeaccbcfopaaGreatDoorT67
namespace Go.Proofs.YtnceeaccbcfopaaGreatDoor
open Go.ChangeShapes Go.WideShapes Go.ChangeAt Go.RowKit
set_option linter.unusedVariables false
namespace DateR
open DateM
def tab:List Int:=[31,28,31,30,31,30,31,31,30,31,30,31]
def Laid (w:World):Prop:=1<w.heap.size∧∀k:Nat,k<12→w.cell? ⟨1,k,none⟩=some (.int .i64 (tab.getD k 0))
theorem Laid.below {w w':World} (h:Laid w) (hb:Below w.heap.size w w'):Laid w' :=
 ⟨by have:=hb.size;have:=h.1;omega,fun k hk=>by rw [hb.cell (p:=⟨1,k,none⟩) h.1];exact h.2 k hk⟩
theorem bel_drewN {B:Nat} {a w:World} (h:Below B a w) (n:Nat):Below B a (w.drewN n):=⟨h.os,h.tape,h.output,h.size,h.block⟩
theorem Laid.drewN {w:World} (h:Laid w) (n:Nat):Laid (w.drewN n):=⟨by simpa using h.1,fun k hk=>by simpa using h.2 k hk⟩
theorem within_any (n low high:Int) (w:World) :
 Calls Tryz.prog 30 #[.int .i64 n,.int .i64 low,.int .i64 high] w fun e w'=>e=.returned (.bool (decide (low≤n∧n≤high)))∧w'=w:=by
 by_cases h1:low≤n
 ·go_enter Tryz.func30,Tryz.ntmps30
  go_wp2
  go_ret
  exact ⟨ret_bool (by simp [h1]),rfl⟩
 ·go_enter Tryz.func30,Tryz.ntmps30
  go_wp2
  go_ret
  exact ⟨ret_bool (by rw [decide_eq_false (show ¬low≤n by omega)];rfl),rfl⟩
theorem tab_md (y:Int) (k:Nat) (h:k<12) (h2:k=1→leapB y=false):tab.getD k 0=md y ((k:Int)+1):=by
 match k,h,h2 with
 | 0,_,_=>rfl
 | 1,_,h2=>unfold md;rw [h2 rfl];rfl
 | 2,_,_=>rfl
 | 3,_,_=>rfl
 | 4,_,_=>rfl
 | 5,_,_=>rfl
 | 6,_,_=>rfl
 | 7,_,_=>rfl
 | 8,_,_=>rfl
 | 9,_,_=>rfl
 | 10,_,_=>rfl
 | 11,_,_=>rfl
theorem tab_name (w:World) (k:Nat) (hk:k<12) (hL:Laid w):∃X:Int,w.cell? ⟨1,k,none⟩=some (.int .i64 X)∧Hid (X=tab.getD k 0):=⟨_,hL.2 k hk,rfl⟩
theorem md_2 (y:Int):md y 2=if leapB y=true then 29 else 28:=rfl
theorem impl_md_in (y:Int) (k:Nat) (hk:k<12) (y1:1970≤y) (y2:y≤2200) (w:World) (hL:Laid w) :
 Calls Tryz.prog 203 #[.int .i64 y,.int .i64 ((k:Int)+1)] w fun e w'=>e=.returned (.int .i64 (md y ((k:Int)+1)))∧w'=w:=by
 obtain ⟨X,hc,HX⟩:=tab_name w k hk hL
 have h0:=hL.1
 have k1:(1:Int)≤(k:Int)+1:=by omega
 have k2:(k:Int)+1≤12:=by omega
 have HK:=H_ hk
 clear hL
 by_cases e:k=1
 ·subst e
  cases hl:leapB y
  ·have hi:=fun w=>impl_leap y w
   rw [hl] at hi
   have HM:Hid (X=md y 2):=by
    show X=md y 2
    rw [HX.out,md_2,hl];rfl
   clear hl
   go_enter Tryz.func203,Tryz.ntmps203
   go_wp2_with (first|(go_at_call 30;go_in)|(go_at_call 218;refine (hi _).mono ?_;rintro e w' ⟨rfl,rfl⟩))
   go_ret
   exact ⟨ret_int HM.out,rfl⟩
  ·have hi:=fun w=>impl_leap y w
   rw [hl] at hi
   have HM:Hid (29=md y 2):=by
    show 29=md y 2
    rw [md_2,hl];rfl
   clear hl
   go_enter Tryz.func203,Tryz.ntmps203
   go_wp2_with (first|(go_at_call 30;go_in)|(go_at_call 218;refine (hi _).mono ?_;rintro e w' ⟨rfl,rfl⟩))
   go_ret
   exact ⟨ret_int HM.out,rfl⟩
 ·have ne:¬(k:Int)+1=2:=by omega
  have nf:((k:Int)+1==2)=false:=by simpa using ne
  have HM:=H_ (HX.out.trans (tab_md y k hk fun h=>absurd h e))
  clear e hk
  go_enter Tryz.func203,Tryz.ntmps203
  go_wp2_with (first|(go_at_call 30;go_in)|(go_at_call 218;refine (impl_leap y _).mono ?_;rintro e w' ⟨rfl,rfl⟩))
  go_ret
  exact ⟨ret_int HM.out,rfl⟩
theorem md_key (y m:Int) (h:¬(1970≤y∧y≤2200∧1≤m∧m≤12)):(¬1970≤y)∨(1970≤y∧¬y≤2200)∨(1970≤y∧y≤2200∧((¬1≤m)∨(1≤m∧¬m≤12))):=by omega
theorem impl_md_out (y m:Int) (h:¬(1970≤y∧y≤2200∧1≤m∧m≤12)) (w:World) :
 Calls Tryz.prog 203 #[.int .i64 y,.int .i64 m] w fun e w'=>e=.returned (.int .i64 0)∧w'=w:=by
 rcases md_key y m h with h1|⟨h1,h2⟩|⟨h1,h2,h3|⟨h3,h4⟩⟩
 all_goals
  clear h
  go_enter Tryz.func203,Tryz.ntmps203
  go_wp2
  go_ret
  exact ⟨rfl,rfl⟩
theorem impl_md (y m:Int) (w:World) (hL:Laid w) :
 Calls Tryz.prog 203 #[.int .i64 y,.int .i64 m] w fun e w'=>e=.returned (.int .i64 (mdays y m))∧w'=w:=by
 unfold mdays
 by_cases h:1970≤y∧y≤2200∧1≤m∧m≤12
 ·rw [if_pos h]
  obtain ⟨k,rfl⟩:∃k:Nat,m=(k:Int)+1:=⟨(m-1).toNat,by omega⟩
  exact impl_md_in y k (by omega) h.1 h.2.1 w hL
 ·rw [if_neg h]
  exact impl_md_out y m h w
theorem tab_at (k:Nat) (h:k<12):([Value.int IntKind.i64 31,Value.int IntKind.i64 28,Value.int IntKind.i64 31,Value.int IntKind.i64 30,Value.int IntKind.i64 31,Value.int IntKind.i64 30,Value.int IntKind.i64 31,Value.int IntKind.i64 31,Value.int IntKind.i64 30,Value.int IntKind.i64 31,Value.int IntKind.i64 30,Value.int IntKind.i64 31]:List Value)[k]=.int .i64 (tab.getD k 0):=by
 match k,h with
 | 0,_=>rfl
 | 1,_=>rfl
 | 2,_=>rfl
 | 3,_=>rfl
 | 4,_=>rfl
 | 5,_=>rfl
 | 6,_=>rfl
 | 7,_=>rfl
 | 8,_=>rfl
 | 9,_=>rfl
 | 10,_=>rfl
 | 11,_=>rfl
theorem spec_md_in (y:Int) (k:Nat) (hk:k<12) (y1:1970≤y) (y2:y≤2200) (w:World) :
 Calls Tryz.prog 158 #[.int .i64 y,.int .i64 ((k:Int)+1)] w fun e w'=>e=.returned (.int .i64 (md y ((k:Int)+1)))∧Below w.heap.size w w':=by
 have k1:(1:Int)≤(k:Int)+1:=by omega
 have k2:(k:Int)+1≤12:=by omega
 by_cases e:k=1
 ·subst e
  cases hl:leapB y
  ·have hi:=fun w=>spec_leap y w
   rw [hl] at hi
   have HM:Hid (28=md y 2):=by
    show 28=md y 2
    rw [md_2,hl];rfl
   clear hl
   go_enter Tryz.func158,Tryz.ntmps158
   go_wp2_with (first|(go_at_call 193;go_in)|(go_at_call 63;go_in)|(go_at_call 194;refine (hi _).mono ?_;rintro e w' ⟨rfl,rfl⟩))
   go_ret
   exact ⟨ret_int HM.out,(Below.refl _ _).alloc (Nat.le_refl _) _⟩
  ·have hi:=fun w=>spec_leap y w
   rw [hl] at hi
   have HM:Hid (29=md y 2):=by
    show 29=md y 2
    rw [md_2,hl];rfl
   clear hl
   go_enter Tryz.func158,Tryz.ntmps158
   go_wp2_with (first|(go_at_call 193;go_in)|(go_at_call 63;go_in)|(go_at_call 194;refine (hi _).mono ?_;rintro e w' ⟨rfl,rfl⟩))
   go_ret
   exact ⟨ret_int HM.out,Below.refl _ _⟩
 ·have ne:¬(k:Int)+1=2:=by omega
  have nf:((k:Int)+1==2)=false:=by simpa using ne
  have HM:=H_ (tab_md y k hk fun h=>absurd h e)
  have HK:=H_ hk
  clear e
  go_enter Tryz.func158,Tryz.ntmps158
  go_wp2_with (first|(go_at_call 193;go_in)|(go_at_call 63;go_in)|(go_at_call 194;refine (spec_leap y _).mono ?_;rintro e w' ⟨rfl,rfl⟩))
  go_ret
  exact ⟨(congrArg Ending.returned (tab_at k HK.out)).trans (ret_int HM.out),(Below.refl _ _).alloc (Nat.le_refl _) _⟩
theorem spec_md_out (y m:Int) (h:¬(1970≤y∧y≤2200∧1≤m∧m≤12)) (w:World) :
 Calls Tryz.prog 158 #[.int .i64 y,.int .i64 m] w fun e w'=>e=.returned (.int .i64 0)∧w'=w:=by
 rcases md_key y m h with h1|⟨h1,h2⟩|⟨h1,h2,h3|⟨h3,h4⟩⟩
 all_goals
  clear h
  go_enter Tryz.func158,Tryz.ntmps158
  go_wp2
  go_ret
  exact ⟨rfl,rfl⟩
theorem spec_md (y m:Int) (w:World) :
 Calls Tryz.prog 158 #[.int .i64 y,.int .i64 m] w fun e w'=>e=.returned (.int .i64 (mdays y m))∧Below w.heap.size w w':=by
 unfold mdays
 by_cases h:1970≤y∧y≤2200∧1≤m∧m≤12
 ·rw [if_pos h]
  obtain ⟨k,rfl⟩:∃k:Nat,m=(k:Int)+1:=⟨(m-1).toNat,by omega⟩
  exact spec_md_in y k (by omega) h.1 h.2.1 w
 ·rw [if_neg h]
  exact (spec_md_out y m h w).mono fun e w' ⟨h1,h2⟩=>⟨h1,h2 ▸ Below.refl _ _⟩
def date (y m d:Int):Value:=.agg #[.int .i64 y,.int .i64 m,.int .i64 d]
end DateR
end Go.Proofs.YtnceeaccbcfopaaGreatDoor
