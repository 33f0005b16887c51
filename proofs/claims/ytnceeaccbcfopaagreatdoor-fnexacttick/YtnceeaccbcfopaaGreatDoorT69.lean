/-
  Whether a date is right: either side tells the same. The condition: the program's table stands in its variable.
-/
import Derived.Test.YtnceeaccbcfopaaGreatDoorT68
namespace Go.Proofs.YtnceeaccbcfopaaGreatDoor
open Go.ChangeShapes Go.WideShapes Go.ChangeAt Go.RowKit
set_option linter.unusedVariables false
namespace DateR
open DateM
theorem impl_right (y m d:Int) (w:World) (hL:Laid w) :
 Calls Tryz.prog 201 #[date y m d] w fun e w'=>e=.returned (.bool (rightB y m d))∧Below w.heap.size w w':=by
 unfold date
 have HI:=H_ (fun w hL=>impl_md y m w hL)
 have HR:Hid (decide (1≤d∧d≤mdays y m)=rightB y m d):=rfl
 generalize mdays y m=X at HI HR
 have HL:=H_ (hL.below ((Below.refl _ _).alloc (Nat.le_refl _) (Obj.cells #[.int .i64 y,.int .i64 m,.int .i64 d] 163)))
 clear hL
 go_enter Tryz.func201,Tryz.ntmps201
 go_wp2
 go_quiet ((first|(go_at_call 203;exact Calls.quiet_of_same (HI.out _ (HL.out.drewN _)))|(go_at_call 30;exact Calls.quiet_of_same (within_any _ _ _ _))))
 go_wp2
 go_ret
 exact ⟨ret_bool HR.out,bel_drewN ((Below.refl _ _).alloc (Nat.le_refl _) _) _⟩
theorem right_cut (y m d X:Int) (hX:X=mdays y m):(decide (1970≤y∧y≤2200)=false∧rightB y m d=false)∨(decide (1970≤y∧y≤2200)=true∧decide (1≤m∧m≤12)=false∧rightB y m d=false)∨(decide (1970≤y∧y≤2200)=true∧decide (1≤m∧m≤12)=true∧decide (1≤d∧d≤X)=rightB y m d):=by
 have hr:=right_iff y m d
 by_cases h1:1970≤y∧y≤2200
 ·by_cases h2:1≤m∧m≤12
  ·exact .inr (.inr ⟨decide_eq_true h1,decide_eq_true h2,by rw [hX];rfl⟩)
  ·refine .inr (.inl ⟨decide_eq_true h1,decide_eq_false h2,?_⟩)
   cases h:rightB y m d
   ·rfl
   ·have:=hr.1 h;exact absurd ⟨this.2.2.1,this.2.2.2.1⟩ h2
 ·refine .inl ⟨decide_eq_false h1,?_⟩
  cases h:rightB y m d
  ·rfl
  ·have:=hr.1 h;exact absurd ⟨this.1,this.2.1⟩ h1
theorem is_any (n low high:Int) (w:World) :
 Calls Tryz.prog 63 #[.int .i64 n,.int .i64 low,.int .i64 high] w fun e w'=>e=.returned (.bool (decide (low≤n∧n≤high)))∧w'=w:=by
 by_cases h1:low≤n
 ·go_enter Tryz.func63,Tryz.ntmps63
  go_wp2
  go_ret
  exact ⟨ret_bool (by simp [h1]),rfl⟩
 ·go_enter Tryz.func63,Tryz.ntmps63
  go_wp2
  go_ret
  exact ⟨ret_bool (by rw [decide_eq_false (show ¬low≤n by omega)];rfl),rfl⟩
theorem year_any (n:Int) (w:World) :
 Calls Tryz.prog 193 #[.int .i64 n] w fun e w'=>e=.returned (.bool (decide (1970≤n∧n≤2200)))∧w'=w:=by
 go_enter Tryz.func193,Tryz.ntmps193
 go_wp2_with (go_at_call 63;refine (is_any _ _ _ _).mono ?_;rintro e w' ⟨rfl,rfl⟩)
 go_ret
 exact ⟨ret_bool (by simp),rfl⟩
def Box (w:World) (B:Nat) (y m d:Int) (w':World):Prop:=Below B w w'∧B<w'.heap.size∧w'.cell? ⟨B,0,none⟩=some (.int .i64 y)∧w'.cell? ⟨B,1,none⟩=some (.int .i64 m)∧w'.cell? ⟨B,2,none⟩=some (.int .i64 d)
theorem Box.below {w w1 w2:World} {B:Nat} {y m d:Int} (h:Box w B y m d w1) (hb:Below w1.heap.size w1 w2):Box w B y m d w2 :=
 ⟨h.1.trans (hb.mono (by have:=h.2.1;omega)),by have:=hb.size;have:=h.2.1;omega,by rw [hb.cell (p:=⟨B,0,none⟩) h.2.1];exact h.2.2.1,by rw [hb.cell (p:=⟨B,1,none⟩) h.2.1];exact h.2.2.2.1,by rw [hb.cell (p:=⟨B,2,none⟩) h.2.1];exact h.2.2.2.2⟩
set_option maxHeartbeats 8000000 in
theorem spec_right (y m d:Int) (w:World) :
 Calls Tryz.prog 156 #[date y m d] w fun e w'=>e=.returned (.bool (rightB y m d))∧Below w.heap.size w w':=by
 unfold date
 obtain ⟨X,hX⟩:∃X,X=mdays y m:=⟨_,rfl⟩
 have key:=right_cut y m d X hX
 have HI:=H_ (fun w=>spec_md y m w)
 rw [←hX] at HI
 clear hX
 generalize rightB y m d=r at key ⊢
 have HB0:=H_ ((((Below.refl w.heap.size w).alloc (Nat.le_refl _) (Obj.cells #[.int .i64 y,.int .i64 m,.int .i64 d] 163))).drew)
 have key2:∃q1 q2:Bool,decide (1970≤y∧y≤2200)=q1∧decide (1≤m∧m≤12)=q2∧Hid ((q1=false∧r=false)∨(q1=true∧q2=false∧r=false)∨(q1=true∧q2=true∧decide (1≤d∧d≤X)=r)):=⟨_,_,rfl,rfl,key⟩
 clear key
 obtain ⟨q1,q2,h1,h2,H3⟩:=key2
 cases q1
 ·go_enter Tryz.func156,Tryz.ntmps156
  go_wp2
  go_quiet ((first|(go_at_call 193;exact Calls.quiet_of_same (year_any _ _))|(go_at_call 63;exact Calls.quiet_of_same (is_any _ _ _ _))))
  go_wp2
  go_ret
  exact ⟨ret_bool (by rcases H3.out with h|h|h<;>simp_all),bel_drewN ((Below.refl _ _).alloc (Nat.le_refl _) _) _⟩
 cases q2
 ·go_enter Tryz.func156,Tryz.ntmps156
  go_wp2
  go_quiet ((first|(go_at_call 193;exact Calls.quiet_of_same (year_any _ _))|(go_at_call 63;exact Calls.quiet_of_same (is_any _ _ _ _))))
  go_wp2
  go_ret
  exact ⟨ret_bool (by rcases H3.out with h|h|h<;>simp_all),bel_drewN ((Below.refl _ _).alloc (Nat.le_refl _) _) _⟩
 ·go_enter Tryz.func156,Tryz.ntmps156
  go_wp2
  go_region_held3 (fun w'=>Below w.heap.size w w'∧w.heap.size<w'.heap.size∧w'.cell? ⟨w.heap.size,0,none⟩=some (.int .i64 y)∧w'.cell? ⟨w.heap.size,1,none⟩=some (.int .i64 m)∧w'.cell? ⟨w.heap.size,2,none⟩=some (.int .i64 d)) (first|assumption|(refine ⟨HB0.out,?_⟩;go_keep;done)|(exact Box.below (w:=w) (B:=w.heap.size) (y:=y) (m:=m) (d:=d) (by assumption) hb))
   (first|(go_at_call 193;refine (year_any _ _).mono ?_;rintro e w' ⟨rfl,rfl⟩)|(go_at_call 63;refine (is_any _ _ _ _).mono ?_;rintro e w' ⟨rfl,rfl⟩)|(go_at_call 158;refine (HI.out _).mono ?_;rintro e w' ⟨rfl,hb⟩))
  go_wp2
  rename_i hS
  go_ret
  exact ⟨ret_bool (by rcases H3.out with h|h|h<;>simp_all),hS.1⟩
end DateR
end Go.Proofs.YtnceeaccbcfopaaGreatDoor
