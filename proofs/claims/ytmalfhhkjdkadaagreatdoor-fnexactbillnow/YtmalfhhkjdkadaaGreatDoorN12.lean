/-
  Whether a date is right: either side tells the same. The condition: the program's table stands in its variable.
  A date's day: either side tells the same. The condition: the program's table stands in its variable.
  A day's date, the program's side. The condition: the program's table stands in its variable.
  A day's date, the model's side. No condition.
  A day's date: both sides hand back the same; of a day within the years it is a right date, whose day is that one. The condition: the program's table stands in its variable.
  A month's first minute, on both sides. The condition: the program's table stands in its variable.
  What the program calls right credits. The condition: at most 1048576 of them, each account of at most 1048576 bytes.
  What the program calls a right catalog. The conditions: all in it is small; the program's own error stands in its variable.
-/
import Derived.Test.YtmalfhhkjdkadaaGreatDoorN11
namespace Go.Proofs.YtmalfhhkjdkadaaGreatDoor
open Go.ChangeShapes Go.WideShapes Go.ChangeAt Go.RowKit
set_option linter.unusedVariables false
namespace DateR
open DateM
theorem impl_right (y m d:Int) (w:World) (hL:Laid w) :
 Calls Tryz.prog 190 #[date y m d] w fun e w'=>e=.returned (.bool (rightB y m d))∧Below w.heap.size w w':=by
 unfold date
 have HI:=hid_intro (fun w hL=>impl_md y m w hL)
 have HR:Hid (decide (1≤d∧d≤mdays y m)=rightB y m d):=rfl
 generalize mdays y m=X at HI HR
 have HL:=hid_intro (hL.below ((Below.refl _ _).alloc (Nat.le_refl _) (Obj.cells #[.int .i64 y,.int .i64 m,.int .i64 d] 168)))
 clear hL
 go_enter Tryz.func190,Tryz.ntmps190
 go_wp2
 go_quiet ((first|(go_at_call 192;exact Calls.quiet_of_same (HI.out _ (HL.out.drewN _)))|(go_at_call 118;exact Calls.quiet_of_same (within_any _ _ _ _))))
 go_wp2
 go_ret
 exact ⟨ret_bool HR.out,bel_drewN ((Below.refl _ _).alloc (Nat.le_refl _) _) _⟩
theorem right_cut (y m d X:Int) (hX:X=mdays y m):(decide (1970≤y∧y≤2200)=false∧rightB y m d=false)∨(decide (1970≤y∧y≤2200)=true∧decide (1≤m∧m≤12)=false∧rightB y m d=false)∨(decide (1970≤y∧y≤2200)=true∧decide (1≤m∧m≤12)=true∧decide (1≤d∧d≤X)=rightB y m d):=by
 have hr:=right_iff y m d
 by_cases h1:1970≤y∧y≤2200
 ·by_cases h2:1≤m∧m≤12
  ·exact .inr (.inr ⟨decide_eq_true h1,decide_eq_true h2,by rw [hX];rfl⟩)
  ·refine .inr (.inl ⟨decide_eq_true h1,decide_eq_false h2,?_⟩)
   cases h:rightB y m d
   ·rfl
   ·have:=hr.1 h;exact absurd ⟨this.2.2.1,this.2.2.2.1⟩ h2
 ·refine .inl ⟨decide_eq_false h1,?_⟩
  cases h:rightB y m d
  ·rfl
  ·have:=hr.1 h;exact absurd ⟨this.1,this.2.1⟩ h1
theorem is_any (n low high:Int) (w:World) :
 Calls Tryz.prog 95 #[.int .i64 n,.int .i64 low,.int .i64 high] w fun e w'=>e=.returned (.bool (decide (low≤n∧n≤high)))∧w'=w:=by
 by_cases h1:low≤n
 ·go_enter Tryz.func95,Tryz.ntmps95
  go_wp2
  go_ret
  exact ⟨ret_bool (by simp [h1]),rfl⟩
 ·go_enter Tryz.func95,Tryz.ntmps95
  go_wp2
  go_ret
  exact ⟨ret_bool (by rw [decide_eq_false (show ¬low≤n by omega)];rfl),rfl⟩
theorem year_any (n:Int) (w:World) :
 Calls Tryz.prog 183 #[.int .i64 n] w fun e w'=>e=.returned (.bool (decide (1970≤n∧n≤2200)))∧w'=w:=by
 go_enter Tryz.func183,Tryz.ntmps183
 go_wp2_with (go_at_call 95;refine (is_any _ _ _ _).mono ?_;rintro e w' ⟨rfl,rfl⟩)
 go_ret
 exact ⟨ret_bool (by simp),rfl⟩
def Box (w:World) (B:Nat) (y m d:Int) (w':World):Prop:=Below B w w'∧B<w'.heap.size∧w'.cell? ⟨B,0,none⟩=some (.int .i64 y)∧w'.cell? ⟨B,1,none⟩=some (.int .i64 m)∧w'.cell? ⟨B,2,none⟩=some (.int .i64 d)
theorem Box.below {w w1 w2:World} {B:Nat} {y m d:Int} (h:Box w B y m d w1) (hb:Below w1.heap.size w1 w2):Box w B y m d w2 :=
 ⟨h.1.trans (hb.mono (by have:=h.2.1;omega)),by have:=hb.size;have:=h.2.1;omega,by rw [hb.cell (p:=⟨B,0,none⟩) h.2.1];exact h.2.2.1,by rw [hb.cell (p:=⟨B,1,none⟩) h.2.1];exact h.2.2.2.1,by rw [hb.cell (p:=⟨B,2,none⟩) h.2.1];exact h.2.2.2.2⟩
set_option maxHeartbeats 8000000 in
theorem spec_right (y m d:Int) (w:World) :
 Calls Tryz.prog 145 #[date y m d] w fun e w'=>e=.returned (.bool (rightB y m d))∧Below w.heap.size w w':=by
 unfold date
 obtain ⟨X,hX⟩:∃X,X=mdays y m:=⟨_,rfl⟩
 have key:=right_cut y m d X hX
 have HI:=hid_intro (fun w=>spec_md y m w)
 rw [←hX] at HI
 clear hX
 generalize rightB y m d=r at key ⊢
 have HB0:=hid_intro ((((Below.refl w.heap.size w).alloc (Nat.le_refl _) (Obj.cells #[.int .i64 y,.int .i64 m,.int .i64 d] 168))).drew)
 have key2:∃q1 q2:Bool,decide (1970≤y∧y≤2200)=q1∧decide (1≤m∧m≤12)=q2∧Hid ((q1=false∧r=false)∨(q1=true∧q2=false∧r=false)∨(q1=true∧q2=true∧decide (1≤d∧d≤X)=r)):=⟨_,_,rfl,rfl,key⟩
 clear key
 obtain ⟨q1,q2,h1,h2,H3⟩:=key2
 cases q1
 ·go_enter Tryz.func145,Tryz.ntmps145
  go_wp2
  go_quiet ((first|(go_at_call 183;exact Calls.quiet_of_same (year_any _ _))|(go_at_call 95;exact Calls.quiet_of_same (is_any _ _ _ _))))
  go_wp2
  go_ret
  exact ⟨ret_bool (by rcases H3.out with h|h|h<;>simp_all),bel_drewN ((Below.refl _ _).alloc (Nat.le_refl _) _) _⟩
 cases q2
 ·go_enter Tryz.func145,Tryz.ntmps145
  go_wp2
  go_quiet ((first|(go_at_call 183;exact Calls.quiet_of_same (year_any _ _))|(go_at_call 95;exact Calls.quiet_of_same (is_any _ _ _ _))))
  go_wp2
  go_ret
  exact ⟨ret_bool (by rcases H3.out with h|h|h<;>simp_all),bel_drewN ((Below.refl _ _).alloc (Nat.le_refl _) _) _⟩
 ·go_enter Tryz.func145,Tryz.ntmps145
  go_wp2
  go_region_held3 (fun w'=>Below w.heap.size w w'∧w.heap.size<w'.heap.size∧w'.cell? ⟨w.heap.size,0,none⟩=some (.int .i64 y)∧w'.cell? ⟨w.heap.size,1,none⟩=some (.int .i64 m)∧w'.cell? ⟨w.heap.size,2,none⟩=some (.int .i64 d)) (first|assumption|(refine ⟨HB0.out,?_⟩;go_keep;done)|(exact Box.below (w:=w) (B:=w.heap.size) (y:=y) (m:=m) (d:=d) (by assumption) hb))
   (first|(go_at_call 183;refine (year_any _ _).mono ?_;rintro e w' ⟨rfl,rfl⟩)|(go_at_call 95;refine (is_any _ _ _ _).mono ?_;rintro e w' ⟨rfl,rfl⟩)|(go_at_call 147;refine (HI.out _).mono ?_;rintro e w' ⟨rfl,hb⟩))
  go_wp2
  rename_i hS
  go_ret
  exact ⟨ret_bool (by rcases H3.out with h|h|h<;>simp_all),hS.1⟩
end DateR
namespace DateR
open DateM
theorem impl_yd (y:Int) (w:World):Calls Tryz.prog 191 #[.int .i64 y] w fun e w'=>e=.returned (.int .i64 (yd y))∧w'=w:=by
 have hi:=fun w=>impl_leap y w
 unfold yd
 cases hl:leapB y
 all_goals
  rw [hl] at hi
  clear hl
  go_enter Tryz.func191,Tryz.ntmps191
  go_wp2_with (go_at_call 213;refine (hi _).mono ?_;rintro e w' ⟨rfl,rfl⟩)
  go_ret
  exact ⟨rfl,rfl⟩
theorem spec_yd (y:Int) (w:World):Calls Tryz.prog 146 #[.int .i64 y] w fun e w'=>e=.returned (.int .i64 (yd y))∧w'=w:=by
 have hi:=fun w=>spec_leap y w
 unfold yd
 cases hl:leapB y
 all_goals
  rw [hl] at hi
  clear hl
  go_enter Tryz.func146,Tryz.ntmps146
  go_wp2_with (go_at_call 184;refine (hi _).mono ?_;rintro e w' ⟨rfl,rfl⟩)
  go_ret
  exact ⟨rfl,rfl⟩
theorem add_year (D:Int) (k:Nat) (h1:0≤D) (h2:D≤30) (hk:k≤230):wrap64 (D+ys k+yd (1970+(k:Int)))=D+ys (k+1):=by
 have a:=ys_bd k
 have b:=yd_bd (1970+(k:Int))
 rw [ys_succ]
 unfold wrap64
 omega
theorem add_month (E y:Int) (k:Nat) (h1:0≤E) (h2:E≤90000) (hk:k<12) (y1:1970≤y) (y2:y≤2200):wrap64 (E+ms y k+mdays y ((k:Int)+1))=E+ms y (k+1):=by
 have a:=ms_bd y k
 have b:=md_bd y ((k:Int)+1)
 have c:mdays y ((k:Int)+1)=md y ((k:Int)+1):=if_pos (by omega)
 rw [c,ms_succ]
 unfold wrap64
 omega
theorem day_parts (y m d:Int) (h:rightB y m d=true):∃K M:Nat,K≤230∧M≤11∧y-1970=(K:Int)∧m-1=(M:Int)∧1≤d∧d≤31∧Hid (num y m d=d-1+ys K+ms y M)∧1970≤y∧y≤2200∧1≤m∧m≤12:=by
 obtain ⟨y1,y2,m1,m2,d1,d2⟩:=(right_iff y m d).1 h
 have b:=md_bd y m
 refine ⟨(y-1970).toNat,(m-1).toNat,by omega,by omega,by omega,by omega,d1,by omega,rfl,y1,y2,m1,m2⟩
set_option maxHeartbeats 4000000 in
theorem impl_dayof_in (y m d:Int) (w:World) (hL:Laid w) (h:rightB y m d=true) :
 Calls Tryz.prog 160 #[date y m d] w fun e w'=>e=.returned (.int .i64 (num y m d))∧Below w.heap.size w w':=by
 obtain ⟨K,M,hK,hM,eK,eM,d1,d2,HN,y1,y2,m1,m2⟩:=day_parts y m d h
 have hr:=fun w hL=>impl_right y m d w hL
 rw [h] at hr
 have HL0:=hid_intro (hL.below ((Below.refl _ _).alloc (Nat.le_refl _) (Obj.cells #[.int .i64 y,.int .i64 m,.int .i64 d] 168)))
 have HB0:=hid_intro ((Below.refl w.heap.size w).alloc (Nat.le_refl _) (Obj.cells #[.int .i64 y,.int .i64 m,.int .i64 d] 168))
 clear h hL
 unfold date at *
 go_enter Tryz.func160,Tryz.ntmps160
 go_wp2_with fail
 refine (hr _ HL0.out).mono ?_
 rintro e w1 ⟨rfl,hb1⟩
 have g0:=hb1.cell (p:=⟨w.heap.size,0,none⟩) (by simp)
 have g1:=hb1.cell (p:=⟨w.heap.size,1,none⟩) (by simp)
 have g2:=hb1.cell (p:=⟨w.heap.size,2,none⟩) (by simp)
 simp [go_sem] at g0 g1 g2
 have HB:=hid_intro (HB0.out.trans (hb1.mono (by simp)))
 have HL:=hid_intro (HL0.out.below hb1)
 clear hb1 HB0 HL0
 go_wp2_with fail
 go_loop [3,15] (fun x z=>∃k:Nat,k≤K∧z=.int .i64 k∧x=.int .i64 (d-1+ys k)) (fun _ z=>K-(intOf z).toNat)
 case atStart=>exact ⟨0,by omega,rfl,by simp [ys]⟩
 case round =>
  obtain ⟨k,hk,rfl,rfl⟩:=hrel
  by_cases hlt:k<K
  ·have hs:=hid_intro (add_year (d-1) k (by omega) (by omega) (by omega))
   have hk2:(k:Int)≤230:=by omega
   go_wp2_with (go_at_call 191;refine (impl_yd _ _).mono ?_;rintro e w' ⟨rfl,rfl⟩)
   go_round
   case rel=>exact ⟨k+1,by omega,by go_num,by rw [hs.out]⟩
   case measure=>simp [intOf];omega
  ·obtain rfl:k=K:=by omega
   obtain ⟨E,hE⟩:∃E,E=d-1+ys k:=⟨_,rfl⟩
   have hE2:0≤E∧E≤90000:=by have:=ys_bd k;omega
   rw [←hE] at HN ⊢
   clear hE
   go_wp2_with fail
   go_loop [3,27] (fun x z=>∃j:Nat,j≤M∧z=.int .i64 j∧x=.int .i64 (E+ms y j)) (fun _ z=>M-(intOf z).toNat)
   case atStart=>exact ⟨0,by omega,rfl,by simp [ms]⟩
   case round =>
    obtain ⟨j,hj,rfl,rfl⟩:=hrel
    by_cases hlt2:j<M
    ·have hs:=hid_intro (add_month E y j hE2.1 hE2.2 (by omega) y1 y2)
     have hk2:(j:Int)≤11:=by omega
     go_wp2_with (go_at_call 192;refine (impl_md _ _ _ HL.out).mono ?_;rintro e w' ⟨rfl,rfl⟩)
     go_round
     case rel=>exact ⟨j+1,by omega,by go_num,by rw [hs.out]⟩
     case measure=>simp [intOf];omega
    ·obtain rfl:j=M:=by omega
     go_wp2_with fail
     go_ret
     exact ⟨ret_int HN.out.symm,HB.out⟩
theorem impl_dayof (y m d:Int) (w:World) (hL:Laid w) :
 Calls Tryz.prog 160 #[date y m d] w fun e w'=>e=.returned (.int .i64 (if rightB y m d=true then num y m d else -1))∧Below w.heap.size w w':=by
 cases h:rightB y m d
 ·have hr:=fun w hL=>impl_right y m d w hL
  rw [h] at hr
  have HL0:=hid_intro (hL.below ((Below.refl _ _).alloc (Nat.le_refl _) (Obj.cells #[.int .i64 y,.int .i64 m,.int .i64 d] 168)))
  clear h hL
  unfold date at *
  go_enter Tryz.func160,Tryz.ntmps160
  go_wp2_with (go_at_call 190;refine (hr _ HL0.out).mono ?_;rintro e w1 ⟨rfl,hb1⟩)
  go_ret
  exact ⟨rfl,bel_alloc hb1⟩
 ·rw [if_pos rfl]
  exact impl_dayof_in y m d w hL h
set_option maxHeartbeats 4000000 in
theorem spec_dayof_in (y m d:Int) (w:World) (h:rightB y m d=true) :
 Calls Tryz.prog 104 #[date y m d] w fun e w'=>e=.returned (.int .i64 (num y m d))∧Below w.heap.size w w':=by
 obtain ⟨K,M,hK,hM,eK,eM,d1,d2,HN,y1,y2,m1,m2⟩:=day_parts y m d h
 have eY:y=1970+(K:Int):=by omega
 have eM2:m=(M:Int)+1:=by omega
 have hr:=fun w=>spec_right y m d w
 rw [h] at hr
 have HB0:=hid_intro ((Below.refl w.heap.size w).alloc (Nat.le_refl _) (Obj.cells #[.int .i64 y,.int .i64 m,.int .i64 d] 168))
 clear h eK eM
 subst eY eM2
 unfold date at *
 go_enter Tryz.func104,Tryz.ntmps104
 go_wp2_with fail
 refine (hr _).mono ?_
 rintro e w1 ⟨rfl,hb1⟩
 have g0:=hb1.cell (p:=⟨w.heap.size,0,none⟩) (by simp)
 have g1:=hb1.cell (p:=⟨w.heap.size,1,none⟩) (by simp)
 have g2:=hb1.cell (p:=⟨w.heap.size,2,none⟩) (by simp)
 have hsz:w.heap.size<w1.heap.size:=by have:=hb1.size;simp at this;omega
 simp [go_sem] at g0 g1 g2
 have HB:=hid_intro (HB0.out.trans (hb1.mono (by simp)))
 clear hb1 HB0
 go_wp2_with fail
 go_loop [3,4] (fun x z=>∃k:Nat,k≤K∧z=.int .i64 (1970+(k:Int))∧x=.int .i64 (d-1+ys k)) (fun _ z=>K+1970-(intOf z).toNat)
 case atStart=>exact ⟨0,by omega,rfl,by simp [ys]⟩
 case round =>
  obtain ⟨k,hk,rfl,rfl⟩:=hrel
  by_cases hlt:k<K
  ·have hs:=hid_intro (add_year (d-1) k (by omega) (by omega) (by omega))
   have hk2:(k:Int)≤230:=by omega
   have hlt2:(1970:Int)+k<1970+K:=by omega
   go_wp2_with (go_at_call 146;refine (spec_yd _ _).mono ?_;rintro e w' ⟨rfl,rfl⟩)
   go_round
   case rel=>exact ⟨k+1,by omega,by go_num,by rw [hs.out]⟩
   case measure=>simp [intOf];omega
  ·obtain rfl:k=K:=by omega
   obtain ⟨E,hE⟩:∃E,E=d-1+ys k:=⟨_,rfl⟩
   have hE2:0≤E∧E≤90000:=by have:=ys_bd k;omega
   rw [←hE] at HN ⊢
   clear hE
   go_wp2_with fail
   go_loopw [3,5] (fun x z wr=>∃j:Nat,j≤M∧z=.int .i64 ((j:Int)+1)∧x=.int .i64 (E+ms (1970+(k:Int)) j)∧Hid (Below w1.heap.size w1 wr)) (fun _ z _=>M+1-(intOf z).toNat)
   case atStart=>exact ⟨0,by omega,rfl,by simp [ms],Below.refl _ _⟩
   case round =>
    obtain ⟨j,hj,rfl,rfl,HR⟩:=hrel
    have q0:=(HR.out.cell (p:=⟨w.heap.size,0,none⟩) hsz).trans g0
    have q1:=(HR.out.cell (p:=⟨w.heap.size,1,none⟩) hsz).trans g1
    by_cases hlt2:j<M
    ·have hs:=hid_intro (add_month E (1970+(k:Int)) j hE2.1 hE2.2 (by omega) y1 y2)
     have hk2:(j:Int)+1≤12:=by omega
     have hlt3:(j:Int)+1<(M:Int)+1:=by omega
     go_wp2_with (go_at_call 147;refine (spec_md _ _ _).mono ?_;rintro e w' ⟨rfl,hb⟩)
     have HR2:=hid_intro (HR.out.trans (hb.mono HR.out.size))
     clear hb
     go_roundw
     case rel=>exact ⟨j+1,by omega,by go_num,by rw [hs.out],HR2⟩
     case measure=>simp [intOf];omega
    ·obtain rfl:j=M:=by omega
     go_wp2_with fail
     go_ret
     exact ⟨ret_int HN.out.symm,HB.out.trans (HR.out.mono HB.out.size)⟩
theorem spec_dayof (y m d:Int) (w:World) :
 Calls Tryz.prog 104 #[date y m d] w fun e w'=>e=.returned (.int .i64 (if rightB y m d=true then num y m d else -1))∧Below w.heap.size w w':=by
 cases h:rightB y m d
 ·have hr:=fun w=>spec_right y m d w
  rw [h] at hr
  clear h
  unfold date at *
  go_enter Tryz.func104,Tryz.ntmps104
  go_wp2_with (go_at_call 145;refine (hr _).mono ?_;rintro e w1 ⟨rfl,hb1⟩)
  go_ret
  exact ⟨rfl,bel_alloc hb1⟩
 ·rw [if_pos rfl]
  exact spec_dayof_in y m d w h
end DateR
namespace DateR
open DateM
theorem less_month (y left:Int) (j J:Nat) (h1:ms y J≤left) (h2:left<ms y (J+1)) (hj:j≤J) (hJ:J<12) (y1:1970≤y) (y2:y≤2200) :
 ∃L X:Int,L=left-ms y j∧X=mdays y ((j:Int)+1)∧0≤L∧L≤400∧28≤X∧X≤31∧(j<J→¬L<X)∧(j=J→L<X)∧L-X=left-ms y (j+1):=by
 have a:=ms_mono y hj
 have b:=ms_bd y (J+1)
 have b2:=ms_bd y j
 have c:mdays y ((j:Int)+1)=md y ((j:Int)+1):=if_pos (by omega)
 have d:=md_bd y ((j:Int)+1)
 have e:=ms_succ y j
 refine ⟨_,_,rfl,rfl,by omega,by omega,by omega,by omega,fun h=>?_,fun h=>?_,by omega⟩
 ·have:=ms_mono y (show j+1≤J from h)
  omega
 ·subst h;omega
set_option maxRecDepth 100000 in
set_option maxHeartbeats 4000000 in
theorem iny (y left:Int) (J:Nat) (h1:ms y J≤left) (h2:left<ms y (J+1)) (hJ:J<12) (y1:1970≤y) (y2:y≤2200) (w:World) (hL:Laid w) :
 Calls Tryz.prog 256 #[.int .i64 y,.int .i64 left] w fun e w'=>e=.returned (date y ((J:Int)+1) (left-ms y J+1))∧Below w.heap.size w w':=by
 have HB0:=hid_intro ((Below.refl w.heap.size w).alloc (Nat.le_refl _) (Obj.cells #[.int .i64 0,.int .i64 0,.int .i64 0] 168))
 have HL:=hid_intro (hL.below HB0.out)
 have H:=fun j hj=>less_month y left j J h1 h2 hj hJ y1 y2
 have HH:=hid_intro H
 clear H hL h1 h2
 go_enter Tryz.func256,Tryz.ntmps256
 go_wp2_with fail
 go_loop [1,7] (fun x z=>∃j:Nat,j≤J∧z=.int .i64 j∧x=.int .i64 (left-ms y j)) (fun _ z=>J+1-(intOf z).toNat)
 case atStart=>exact ⟨0,by omega,rfl,by simp [ms]⟩
 case round =>
  obtain ⟨j,hj,rfl,rfl⟩:=hrel
  obtain ⟨L,X,hLe,hX,l0,l1,x0,x1,f1,f2,f3⟩:=HH.out j hj
  have HI:=hid_intro (impl_md y ((j:Int)+1) _ HL.out)
  rw [←hX] at HI
  rw [←hLe]
  have HF:=hid_intro f3
  have j2:(j:Int)<12:=by omega
  have HLe:=hid_intro hLe
  clear hLe hX f3
  by_cases hlt:j<J
  ·have hn:=f1 hlt
   clear f1 f2
   go_wp2_with (go_at_call 192;refine HI.out.mono ?_;rintro e w' ⟨rfl,rfl⟩)
   go_round
   case rel=>exact ⟨j+1,by omega,by go_num,by rw [HF.out]⟩
   case measure=>simp [intOf];omega
  ·obtain rfl:j=J:=by omega
   have hn:=f2 rfl
   clear f1 f2
   go_wp2_with (go_at_call 192;refine HI.out.mono ?_;rintro e w' ⟨rfl,rfl⟩)
   rw [←HLe.out]
   refine bodyPost_ret (v:=date y ((j:Int)+1) (L+1)) (by simp [date,results,Tryz.results256,go_sem]) rfl ⟨rfl,?_⟩
   repeat' first|exact HB0.out|apply Below.setCell
   all_goals first|exact Nat.le_refl _|exact (Below.refl _ _).alloc (Nat.le_refl _) _
theorem less_year (day:Int) (j K:Nat) (h1:ys K≤day) (h2:day<ys (K+1)) (hj:j≤K) (hd:day≤100000) :
 ∃L X:Int,L=day-ys j∧X=yd (1970+(j:Int))∧0≤L∧L≤100000∧365≤X∧X≤366∧(j<K→¬L<X)∧(j=K→L<X)∧L-X=day-ys (j+1):=by
 have a:=ys_mono hj
 have b2:=ys_bd j
 have d:=yd_bd (1970+(j:Int))
 have e:=ys_succ j
 refine ⟨_,_,rfl,rfl,by omega,by omega,by omega,by omega,fun h=>?_,fun h=>?_,by omega⟩
 ·have:=ys_mono (show j+1≤K from h)
  omega
 ·subst h;omega
set_option maxRecDepth 100000 in
set_option maxHeartbeats 4000000 in
theorem impl_dateof_in (day:Int) (K J:Nat) (d0:0≤day) (d1:day≤100000) (h1:ys K≤day) (h2:day<ys (K+1)) (hK:K≤230) (m1:ms (1970+(K:Int)) J≤day-ys K) (m2:day-ys K<ms (1970+(K:Int)) (J+1)) (hJ:J<12) (w:World) (hL:Laid w) :
 Calls Tryz.prog 252 #[.int .i64 day] w fun e w'=>e=.returned (date (1970+(K:Int)) ((J:Int)+1) (day-ys K-ms (1970+(K:Int)) J+1))∧Below w.heap.size w w':=by
 have HB0:=hid_intro ((Below.refl w.heap.size w).alloc (Nat.le_refl _) (Obj.cells #[.int .i64 0,.int .i64 0,.int .i64 0] 168))
 have HL:=hid_intro (hL.below HB0.out)
 have HH:=hid_intro (fun j hj=>less_year day j K h1 h2 hj d1)
 have HY:=hid_intro (fun w hL=>iny (1970+(K:Int)) (day-ys K) J m1 m2 hJ (by omega) (by omega) w hL)
 clear hL h1 h2 m1 m2
 go_enter Tryz.func252,Tryz.ntmps252
 go_wp2_with (first|(go_at_call 255;go_in)|(go_at_call 118;go_in))
 go_loop [3,11] (fun x z=>∃j:Nat,j≤K∧z=.int .i64 j∧x=.int .i64 (day-ys j)) (fun _ z=>K+1-(intOf z).toNat)
 case atStart=>exact ⟨0,by omega,rfl,by simp [ys]⟩
 case round =>
  obtain ⟨j,hj,rfl,rfl⟩:=hrel
  obtain ⟨L,X,hLe,hX,l0,l1,x0,x1,f1,f2,f3⟩:=HH.out j hj
  have HI:=hid_intro (fun w=>impl_yd (1970+(j:Int)) w)
  rw [←hX] at HI
  rw [←hLe]
  have HF:=hid_intro f3
  have j2:(j:Int)<231:=by omega
  have HLe:=hid_intro hLe
  clear hLe hX f3
  by_cases hlt:j<K
  ·have hn:=f1 hlt
   clear f1 f2
   go_wp2_with (go_at_call 191;refine (HI.out _).mono ?_;rintro e w' ⟨rfl,rfl⟩)
   go_round
   case rel=>exact ⟨j+1,by omega,by go_num,by rw [HF.out]⟩
   case measure=>simp [intOf];omega
  ·obtain rfl:j=K:=by omega
   have hn:=f2 rfl
   rw [←HLe.out] at HY
   obtain ⟨D,hD⟩:∃D,D=L-ms (1970+(j:Int)) J+1:=⟨_,rfl⟩
   rw [←hD] at HY
   have HD:=hid_intro hD
   clear f1 f2 hD HH
   unfold date at *
   go_wp2_with (first|(go_at_call 191;refine (HI.out _).mono ?_;rintro e w' ⟨rfl,rfl⟩)|(go_at_call 256;refine (HY.out _ HL.out).mono ?_;rintro e w2 ⟨rfl,hb⟩;obtain ⟨hc,hz⟩:=bcell hb))
   refine bodyPost_ret (v:=date (1970+(j:Int)) ((J:Int)+1) D) (by simp [date,results,Tryz.results252,go_sem,hc]) rfl ⟨by rw [HD.out,HLe.out],?_⟩
   exact (((bel_alloc hb).setCell (by simp) _).setCell (by simp) _).setCell (by simp) _
theorem past_year (day:Int) (j K:Nat) (h1:ys K≤day) (hK:231≤K) (hj:j≤231) (hd:day≤100000) (d0:0≤day) :
 ∃L X:Int,L=day-ys j∧X=yd (1970+(j:Int))∧0≤L∧L≤100000∧365≤X∧X≤366∧(j<231→¬L<X)∧L-X=day-ys (j+1):=by
 have a:=ys_mono (show j≤K by omega)
 have b2:=ys_bd j
 have d:=yd_bd (1970+(j:Int))
 have e:=ys_succ j
 refine ⟨_,_,rfl,rfl,by omega,by omega,by omega,by omega,fun h=>?_,by omega⟩
 have:=ys_mono (show j+1≤K by omega)
 omega
set_option maxRecDepth 100000 in
set_option maxHeartbeats 4000000 in
theorem impl_dateof_past (day:Int) (K:Nat) (d0:0≤day) (d1:day≤100000) (h1:ys K≤day) (hK:231≤K) (w:World) :
 Calls Tryz.prog 252 #[.int .i64 day] w fun e w'=>e=.returned (date 0 0 0)∧Below w.heap.size w w':=by
 have HB0:=hid_intro ((Below.refl w.heap.size w).alloc (Nat.le_refl _) (Obj.cells #[.int .i64 0,.int .i64 0,.int .i64 0] 168))
 have HH:=hid_intro (fun j hj=>past_year day j K h1 hK hj d1 d0)
 clear h1 hK
 go_enter Tryz.func252,Tryz.ntmps252
 go_wp2_with (first|(go_at_call 255;go_in)|(go_at_call 118;go_in))
 go_loop [3,11] (fun x z=>∃j:Nat,j≤231∧z=.int .i64 j∧x=.int .i64 (day-ys j)) (fun _ z=>232-(intOf z).toNat)
 case atStart=>exact ⟨0,by omega,rfl,by simp [ys]⟩
 case round =>
  obtain ⟨j,hj,rfl,rfl⟩:=hrel
  obtain ⟨L,X,hLe,hX,l0,l1,x0,x1,f1,f3⟩:=HH.out j hj
  have HI:=hid_intro (fun w=>impl_yd (1970+(j:Int)) w)
  rw [←hX] at HI
  rw [←hLe]
  have HF:=hid_intro f3
  clear hLe hX f3
  by_cases hlt:j<231
  ·have hn:=f1 hlt
   have j2:(j:Int)<231:=by omega
   clear f1
   go_wp2_with (go_at_call 191;refine (HI.out _).mono ?_;rintro e w' ⟨rfl,rfl⟩)
   go_round
   case rel=>exact ⟨j+1,by omega,by go_num,by rw [HF.out]⟩
   case measure=>simp [intOf];omega
  ·have j2:¬(j:Int)<231:=by omega
   clear f1
   go_wp2_with fail
   refine bodyPost_ret (v:=date 0 0 0) (by simp [date,results,Tryz.results252,go_sem]) rfl ⟨rfl,?_⟩
   repeat' first|exact HB0.out|apply Below.setCell
   all_goals first|exact Nat.le_refl _|exact (Below.refl _ _).alloc (Nat.le_refl _) _
theorem impl_dateof_none (day:Int) (h:day<0∨100000<day) (w:World) :
 Calls Tryz.prog 252 #[.int .i64 day] w fun e w'=>e=.returned (date 0 0 0)∧Below w.heap.size w w':=by
 have key:(¬0≤day)∨(0≤day∧¬day≤100000):=by omega
 clear h
 rcases key with h1|⟨h1,h2⟩
 all_goals
  go_enter Tryz.func252,Tryz.ntmps252
  go_wp2
  refine bodyPost_ret (v:=date 0 0 0) (by simp [date,results,Tryz.results252,go_sem]) rfl ⟨rfl,?_⟩
  repeat' first|exact Below.refl _ _|apply Below.setCell|apply Below.alloc
  all_goals first|omega|(simp;done)|(simp;omega)
end DateR
namespace DateR
open DateM
structure Two (w wr:World) (y m:Int):Prop where
 bel:Below w.heap.size w wr
 lt:w.heap.size+1<wr.heap.size
 r0:wr.cell? ⟨w.heap.size,0,none⟩=some (.int .i64 0)
 r1:wr.cell? ⟨w.heap.size,1,none⟩=some (.int .i64 0)
 r2:wr.cell? ⟨w.heap.size,2,none⟩=some (.int .i64 0)
 c0:wr.cell? ⟨w.heap.size+1,0,none⟩=some (.int .i64 y)
 c1:wr.cell? ⟨w.heap.size+1,1,none⟩=some (.int .i64 m)
 c2:wr.cell? ⟨w.heap.size+1,2,none⟩=some (.int .i64 0)
 f0:wr.frozen? ⟨w.heap.size,0,none⟩=false
 f1:wr.frozen? ⟨w.heap.size,1,none⟩=false
 f2:wr.frozen? ⟨w.heap.size,2,none⟩=false
 g0:wr.frozen? ⟨w.heap.size+1,0,none⟩=false
 g1:wr.frozen? ⟨w.heap.size+1,1,none⟩=false
 g2:wr.frozen? ⟨w.heap.size+1,2,none⟩=false
theorem Two.start (w:World):Two w ((w.alloc (Obj.cells #[.int .i64 0,.int .i64 0,.int .i64 0] 168)).alloc (Obj.cells #[.int .i64 1970,.int .i64 1,.int .i64 0] 168)) 1970 1 where
 bel:=((Below.refl _ _).alloc (Nat.le_refl _) _).alloc (by simp) _
 lt:=by simp
 r0:=by simp [go_sem]
 r1:=by simp [go_sem]
 r2:=by simp [go_sem]
 c0:=by simp [go_sem]
 c1:=by simp [go_sem]
 c2:=by simp [go_sem]
 f0:=by simp [go_sem]
 f1:=by simp [go_sem]
 f2:=by simp [go_sem]
 g0:=by simp [go_sem]
 g1:=by simp [go_sem]
 g2:=by simp [go_sem]
theorem Two.below {w w1 w2:World} {y m:Int} (h:Two w w1 y m) (hb:Below w1.heap.size w1 w2):Two w w2 y m where
 bel:=h.bel.trans (hb.mono h.bel.size)
 lt:=by have:=hb.size;have:=h.lt;omega
 r0:=(hb.cell (p:=⟨w.heap.size,0,none⟩) (by have:=h.lt;simp only;omega)).trans h.r0
 r1:=(hb.cell (p:=⟨w.heap.size,1,none⟩) (by have:=h.lt;simp only;omega)).trans h.r1
 r2:=(hb.cell (p:=⟨w.heap.size,2,none⟩) (by have:=h.lt;simp only;omega)).trans h.r2
 c0:=(hb.cell (p:=⟨w.heap.size+1,0,none⟩) h.lt).trans h.c0
 c1:=(hb.cell (p:=⟨w.heap.size+1,1,none⟩) h.lt).trans h.c1
 c2:=(hb.cell (p:=⟨w.heap.size+1,2,none⟩) h.lt).trans h.c2
 f0:=(hb.frozen (p:=⟨w.heap.size,0,none⟩) (by have:=h.lt;simp only;omega)).trans h.f0
 f1:=(hb.frozen (p:=⟨w.heap.size,1,none⟩) (by have:=h.lt;simp only;omega)).trans h.f1
 f2:=(hb.frozen (p:=⟨w.heap.size,2,none⟩) (by have:=h.lt;simp only;omega)).trans h.f2
 g0:=(hb.frozen (p:=⟨w.heap.size+1,0,none⟩) h.lt).trans h.g0
 g1:=(hb.frozen (p:=⟨w.heap.size+1,1,none⟩) h.lt).trans h.g1
 g2:=(hb.frozen (p:=⟨w.heap.size+1,2,none⟩) h.lt).trans h.g2
theorem Two.year {w wr:World} {y m:Int} (h:Two w wr y m) (v:Int):Two w (wr.setCell ⟨w.heap.size+1,0,none⟩ (.int .i64 v)) v m where
 bel:=h.bel.setCell (by simp) _
 lt:=by have:=h.lt;simpa using this
 r0:=by simp [go_sem,h.r0]
 r1:=by simp [go_sem,h.r1]
 r2:=by simp [go_sem,h.r2]
 c0:=by simp [go_sem,h.c0]
 c1:=by simp [go_sem,h.c1]
 c2:=by simp [go_sem,h.c2]
 f0:=by simp [go_sem,h.f0]
 f1:=by simp [go_sem,h.f1]
 f2:=by simp [go_sem,h.f2]
 g0:=by simp [go_sem,h.g0]
 g1:=by simp [go_sem,h.g1]
 g2:=by simp [go_sem,h.g2]
theorem Two.month {w wr:World} {y m:Int} (h:Two w wr y m) (v:Int):Two w (wr.setCell ⟨w.heap.size+1,1,none⟩ (.int .i64 v)) y v where
 bel:=h.bel.setCell (by simp) _
 lt:=by have:=h.lt;simpa using this
 r0:=by simp [go_sem,h.r0]
 r1:=by simp [go_sem,h.r1]
 r2:=by simp [go_sem,h.r2]
 c0:=by simp [go_sem,h.c0]
 c1:=by simp [go_sem,h.c1]
 c2:=by simp [go_sem,h.c2]
 f0:=by simp [go_sem,h.f0]
 f1:=by simp [go_sem,h.f1]
 f2:=by simp [go_sem,h.f2]
 g0:=by simp [go_sem,h.g0]
 g1:=by simp [go_sem,h.g1]
 g2:=by simp [go_sem,h.g2]
def outOf (day:Int) (K J:Nat):Value:=if K≤230 then date (1970+(K:Int)) ((J:Int)+1) (day-ys K-ms (1970+(K:Int)) J+1) else date 0 0 0
set_option maxRecDepth 100000 in
set_option maxHeartbeats 4000000 in
theorem spec_dateof_in (day:Int) (K J:Nat) (d0:0≤day) (d1:day≤100000) (h1:ys K≤day) (h2:day<ys (K+1)) (hm1:ms (1970+(K:Int)) J≤day-ys K) (hm2:day-ys K<ms (1970+(K:Int)) (J+1)) (hJ:J<12) (w:World) :
 Calls Tryz.prog 182 #[.int .i64 day] w fun e w'=>e=.returned (outOf day K J)∧Below w.heap.size w w':=by
 have HH:=hid_intro (fun j hj=>less_year day j K h1 h2 hj d1)
 have hK:K≤300:=by have:=ys_bd K;omega
 have HM:Hid (K≤230→∀j,j≤J→_):=hid_intro (fun hK j hj=>less_month (1970+(K:Int)) (day-ys K) j J hm1 hm2 hj hJ (by omega) (by omega))
 clear h1 h2 hm1 hm2
 have hT:=Two.start w
 obtain ⟨W,hW⟩:∃W,W=(w.alloc (Obj.cells #[.int .i64 0,.int .i64 0,.int .i64 0] 168)).alloc (Obj.cells #[.int .i64 1970,.int .i64 1,.int .i64 0] 168):=⟨_,rfl⟩
 rw [←hW] at hT
 have HT:=hid_intro hT
 have HW:=hid_intro hW
 clear hT hW
 go_enter Tryz.func182,Tryz.ntmps182
 go_wp2_with (first|(go_at_call 212;go_in)|(go_at_call 95;go_in))
 rw [←HW.out]
 go_loopw [0] (fun x wr=>∃j:Nat,j≤K∧x=.int .i64 (day-ys j)∧Hid (Two w wr (1970+(j:Int)) 1)) (fun x _=>(intOf x).toNat)
 case atStart=>exact ⟨0,by omega,by simp [ys],HT⟩
 case round =>
  obtain ⟨j,hj,rfl,HR⟩:=hrel
  obtain ⟨L,X,hLe,hX,l0,l1,x0,x1,f1,f2,f3⟩:=HH.out j hj
  have hc0:=HR.out.c0
  have hg0:=HR.out.g0
  have HI:=hid_intro (fun w=>spec_yd (1970+(j:Int)) w)
  rw [←hX] at HI
  rw [←hLe]
  have HF:=hid_intro f3
  have HLe:=hid_intro hLe
  have j2:(j:Int)≤300:=by omega
  clear hLe hX f3
  by_cases hlt:j<K
  ·have hn:=f1 hlt
   have hn2:X≤L:=by omega
   clear f1 f2
   go_wp2_with (go_at_call 146;refine (HI.out _).mono ?_;rintro e w' ⟨rfl,rfl⟩)
   go_roundw
   case rel=>exact ⟨j+1,by omega,by rw [HF.out],hid_intro (by have:=HR.out.year (1970+(j:Int)+1);rw [show (1970+((j+1:Nat):Int))=1970+(j:Int)+1 by omega];exact this)⟩
   case measure=>simp [intOf];omega
  ·obtain rfl:j=K:=by omega
   have hn:=f2 rfl
   have hn2:¬X≤L:=by omega
   clear f1 f2
   by_cases hp:j≤230
   ·have q1:(1970:Int)≤1970+(j:Int):=by omega
    have q2:(1970:Int)+(j:Int)≤2200:=by omega
    go_wp2_with (first|(go_at_call 146;refine (HI.out _).mono ?_;rintro e w' ⟨rfl,rfl⟩)|(go_at_call 183;refine (year_any _ _).mono ?_;rintro e w' ⟨rfl,rfl⟩))
    have HMJ:=hid_intro (HM.out hp)
    rw [←HLe.out] at HMJ
    have HO:Hid (date (1970+(j:Int)) ((J:Int)+1) (L-ms (1970+(j:Int)) J+1)=outOf day j J):=hid_intro (by rw [HLe.out];exact (if_pos hp).symm)
    clear HM HLe HF HH hn hn2 hc0 hg0
    go_loopw [0] (fun x wr=>∃i:Nat,i≤J∧x=.int .i64 (L-ms (1970+(j:Int)) i)∧Hid (Two w wr (1970+(j:Int)) ((i:Int)+1))) (fun x _=>(intOf x).toNat)
    case atStart=>exact ⟨0,by omega,by simp [ms],HR⟩
    case round =>
     obtain ⟨i,hi,rfl,HR2⟩:=hrel
     obtain ⟨Z,Y,hZe,hY,z0,z1,y0,y1,f1,f2,f3⟩:=HMJ.out i hi
     have hc0:=HR2.out.c0
     have hc1:=HR2.out.c1
     have hg1:=HR2.out.g1
     have HMD:=hid_intro (fun w=>spec_md (1970+(j:Int)) ((i:Int)+1) w)
     rw [←hY] at HMD
     rw [←hZe]
     have HF:=hid_intro f3
     have HZe:=hid_intro hZe
     have i2:(i:Int)<12:=by omega
     clear hZe hY f3
     by_cases hlt2:i<J
     ·have hn:=f1 hlt2
      have hn2:Y≤Z:=by omega
      have i3:(i:Int)+1<12:=by omega
      clear f1 f2
      go_wp2_with fail
      refine (HMD.out _).mono ?_
      rintro e w2 ⟨rfl,hb2⟩
      have HR3:=hid_intro (HR2.out.below hb2)
      have hc0:=HR3.out.c0
      have hc1:=HR3.out.c1
      have hg1:=HR3.out.g1
      clear hb2
      go_wp2_with fail
      refine (HMD.out _).mono ?_
      rintro e w3 ⟨rfl,hb3⟩
      have HR4:=hid_intro (HR3.out.below hb3)
      have hc0:=HR4.out.c0
      have hc1:=HR4.out.c1
      have hg1:=HR4.out.g1
      clear hb3
      go_wp2_with fail
      go_roundw
      case rel=>exact ⟨i+1,by omega,by rw [HF.out],hid_intro (by have:=HR4.out.month ((i:Int)+1+1);rw [show (((i+1:Nat):Int)+1)=(i:Int)+1+1 by omega];exact this)⟩
      case measure=>simp [intOf];omega
     ·obtain rfl:i=J:=by omega
      have hn:=f2 rfl
      have hn2:¬Y≤Z:=by omega
      clear f1 f2
      rw [←HZe.out] at HO
      by_cases hl:i=11
      ·subst hl
       have hc2:=HR2.out.c2
       have hg2:=HR2.out.g2
       have r0:=HR2.out.r0
       have r1:=HR2.out.r1
       have r2:=HR2.out.r2
       have e0:=HR2.out.f0
       have e1:=HR2.out.f1
       have e2:=HR2.out.f2
       go_wp2_with fail
       refine bodyPost_ret (v:=date (1970+(j:Int)) 12 (Z+1)) (by simp [date,results,Tryz.results182,go_sem,r0,r1,r2]) rfl ⟨by rw [←HO.out];rfl,?_⟩
       repeat' first|exact HR2.out.bel|apply Below.setCell
       all_goals simp
      ·have i3:(i:Int)+1<12:=by omega
       go_wp2_with fail
       refine (HMD.out _).mono ?_
       rintro e w2 ⟨rfl,hb2⟩
       have HR3:=hid_intro (HR2.out.below hb2)
       have hc0:=HR3.out.c0
       have hc1:=HR3.out.c1
       have hc2:=HR3.out.c2
       have hg2:=HR3.out.g2
       have r0:=HR3.out.r0
       have r1:=HR3.out.r1
       have r2:=HR3.out.r2
       have e0:=HR3.out.f0
       have e1:=HR3.out.f1
       have e2:=HR3.out.f2
       clear hb2
       go_wp2_with fail
       refine bodyPost_ret (v:=date (1970+(j:Int)) ((i:Int)+1) (Z+1)) (by simp [date,results,Tryz.results182,go_sem,r0,r1,r2]) rfl ⟨by rw [←HO.out],?_⟩
       repeat' first|exact HR3.out.bel|apply Below.setCell
       all_goals simp
   ·have q1:(1970:Int)≤1970+(j:Int):=by omega
    have q2:¬(1970:Int)+(j:Int)≤2200:=by omega
    have q3:decide ((1970:Int)+(j:Int)≤2200)=false:=decide_eq_false q2
    have r0:=HR.out.r0
    have r1:=HR.out.r1
    have r2:=HR.out.r2
    have e0:=HR.out.f0
    have e1:=HR.out.f1
    have e2:=HR.out.f2
    have HO:Hid (date 0 0 0=outOf day j J):=hid_intro (if_neg hp).symm
    go_wp2_with (first|(go_at_call 146;refine (HI.out _).mono ?_;rintro e w' ⟨rfl,rfl⟩)|(go_at_call 183;refine (year_any _ _).mono ?_;rintro e w' ⟨rfl,rfl⟩))
    refine bodyPost_ret (v:=date 0 0 0) (by simp [date,results,Tryz.results182,go_sem,r0,r1,r2]) rfl ⟨by rw [HO.out],?_⟩
    repeat' first|exact HR.out.bel|apply Below.setCell
    all_goals exact Nat.le_refl _
end DateR
namespace DateR
open DateM
theorem spec_dateof_none (day:Int) (h:day<0∨100000<day) (w:World) :
 Calls Tryz.prog 182 #[.int .i64 day] w fun e w'=>e=.returned (date 0 0 0)∧Below w.heap.size w w':=by
 have key:(¬0≤day)∨(0≤day∧¬day≤100000):=by omega
 clear h
 rcases key with h1|⟨h1,h2⟩
 all_goals
  go_enter Tryz.func182,Tryz.ntmps182
  go_wp2
  refine bodyPost_ret (v:=date 0 0 0) (by simp [date,results,Tryz.results182,go_sem]) rfl ⟨rfl,?_⟩
  repeat' first|exact Below.refl _ _|apply Below.setCell|apply Below.alloc
  all_goals first|omega|(simp;done)|(simp;omega)
theorem num_of (day:Int) (K J:Nat) (hK:K≤230) (hJ:J<12) (m1:ms (1970+(K:Int)) J≤day-ys K) (m2:day-ys K<ms (1970+(K:Int)) (J+1)) :
 rightB (1970+(K:Int)) ((J:Int)+1) (day-ys K-ms (1970+(K:Int)) J+1)=true∧num (1970+(K:Int)) ((J:Int)+1) (day-ys K-ms (1970+(K:Int)) J+1)=day:=by
 have e:=ms_succ (1970+(K:Int)) J
 refine ⟨(right_iff _ _ _).2 ⟨by omega,by omega,by omega,by omega,by omega,by omega⟩,?_⟩
 unfold num
 rw [show (1970+(K:Int)-1970).toNat=K by omega,show ((J:Int)+1-1).toNat=J by omega]
 omega
def DateOfIs (day y m d:Int):Prop:=(0≤day∧day<ys 231∧rightB y m d=true∧num y m d=day)∨(¬(0≤day∧day<ys 231)∧y=0∧m=0∧d=0)
theorem ys231:ys 231≤100000:=by have:=ys_bd 231;omega
theorem dateof_both (day:Int):∃y m d:Int,DateOfIs day y m d∧(∀w,Laid w→Calls Tryz.prog 252 #[.int .i64 day] w fun e w'=>e=.returned (date y m d)∧Below w.heap.size w w')∧(∀w,Calls Tryz.prog 182 #[.int .i64 day] w fun e w'=>e=.returned (date y m d)∧Below w.heap.size w w'):=by
 by_cases h:day<0∨100000<day
 ·have:=ys231
  exact ⟨0,0,0,.inr ⟨by omega,rfl,rfl,rfl⟩,fun w _=>impl_dateof_none day h w,fun w=>spec_dateof_none day h w⟩
 ·have d0:0≤day:=by omega
  have d1:day≤100000:=by omega
  obtain ⟨K,h1,h2⟩:=year_is day d0
  obtain ⟨J,hJ,m1,m2⟩:=month_is (1970+(K:Int)) (day-ys K) (by omega) (by have:=ys_succ K;omega)
  have hs:=fun w=>spec_dateof_in day K J d0 d1 h1 h2 m1 m2 hJ w
  unfold outOf at hs
  by_cases hK:K≤230
  ·rw [if_pos hK] at hs
   obtain ⟨n1,n2⟩:=num_of day K J hK hJ m1 m2
   have:=ys_mono (show K+1≤231 by omega)
   exact ⟨_,_,_,.inl ⟨d0,by omega,n1,n2⟩,fun w hL=>impl_dateof_in day K J d0 d1 h1 h2 hK m1 m2 hJ w hL,hs⟩
  ·rw [if_neg hK] at hs
   have:=ys_mono (show 231≤K by omega)
   exact ⟨0,0,0,.inr ⟨by omega,rfl,rfl,rfl⟩,fun w _=>impl_dateof_past day K d0 d1 h1 (by omega) w,hs⟩
end DateR
namespace DateR
open DateM
theorem mon_divE (k:Nat):(k:Int).tdiv 12=((k / 12:Nat):Int)∧(k:Int).tmod 12=((k % 12:Nat):Int):=by
 rw [Int.tdiv_eq_ediv_of_nonneg (by omega),Int.tmod_eq_emod_of_nonneg (by omega)];omega
theorem first_anyE (k a b:Nat) (hk:k≤2760) (ha:(k:Int).tdiv 12=(a:Int)) (hb:(k:Int).tmod 12=(b:Int)) (ha2:a≤230) (hb2:b≤11) (w:World) :
 Calls Tryz.prog 161 #[.int .i64 k] w fun e w'=>e=.returned (date (1970+(a:Int)) ((b:Int)+1) 1)∧Below w.heap.size w w':=by
 go_enter Tryz.func161,Tryz.ntmps161
 go_wp2_with fail
 refine bodyPost_ret (v:=date (1970+(a:Int)) ((b:Int)+1) 1) (by simp [date,results,Tryz.results161,go_sem]) rfl ⟨rfl,?_⟩
 repeat' first|exact Below.refl _ _|apply Below.setCell|apply Below.alloc
 all_goals first|omega|(simp;done)|(simp;omega)
theorem impl_start_inE (k a b:Nat) (D:Int) (hk:k≤2760) (ha:(k:Int).tdiv 12=(a:Int)) (hb:(k:Int).tmod 12=(b:Int)) (ha2:a≤230) (hb2:b≤11) (hD:0≤D) (hD2:D≤100000) (w:World) (hL:Laid w)
 (hd:∀w,Laid w→Calls Tryz.prog 160 #[date (1970+(a:Int)) ((b:Int)+1) 1] w fun e w'=>e=.returned (.int .i64 D)∧Below w.heap.size w w') :
 Calls Tryz.prog 119 #[.int .i64 k] w fun e w'=>e=.returned (.int .i64 (D*1440))∧Below w.heap.size w w':=by
 have HD:=hid_intro hd
 have HL:=hid_intro hL
 clear hd hL
 have k2:(k:Int)≤2760:=by omega
 have HF:=hid_intro (fun w=>first_anyE k a b hk ha hb ha2 hb2 w)
 unfold date at *
 go_enter Tryz.func119,Tryz.ntmps119
 go_wp2_with (first|(go_at_call 72;go_in)|(go_at_call 118;go_in)|(go_at_call 161;refine (HF.out _).mono ?_;rintro e w1 ⟨rfl,hb1⟩)|(go_at_call 160;refine (HD.out _ (HL.out.below hb1)).mono ?_;rintro e w2 ⟨rfl,hb2⟩))
 go_ret
 exact ⟨rfl,hb1.trans (hb2.mono hb1.size)⟩
theorem spec_start_inE (k a b:Nat) (D:Int) (hk:k≤2760) (ha:(k:Int).tdiv 12=(a:Int)) (hb:(k:Int).tmod 12=(b:Int)) (ha2:a≤230) (hb2:b≤11) (hD:0≤D) (hD2:D≤100000) (w:World)
 (hd:∀w,Calls Tryz.prog 104 #[date (1970+(a:Int)) (1+(b:Int)) 1] w fun e w'=>e=.returned (.int .i64 D)∧Below w.heap.size w w') :
 Calls Tryz.prog 57 #[.int .i64 k] w fun e w'=>e=.returned (.int .i64 (D*1440))∧Below w.heap.size w w':=by
 have HD:=hid_intro hd
 clear hd
 have k2:(k:Int)≤2760:=by omega
 unfold date at *
 go_enter Tryz.func57,Tryz.ntmps57
 go_wp2_with (first|(go_at_call 104;refine (HD.out _).mono ?_;rintro e w1 ⟨rfl,hb1⟩))
 go_ret
 exact ⟨ret_int (by omega),hb1⟩
theorem start_eng (m:Int) (h1:0≤m) (h2:m≤2760):∃v:Int,(∀w,Laid w→Calls Tryz.prog 119 #[.int .i64 m] w fun e w'=>e=.returned (.int .i64 v)∧Below w.heap.size w w')∧(∀w,Calls Tryz.prog 57 #[.int .i64 m] w fun e w'=>e=.returned (.int .i64 v)∧Below w.heap.size w w'):=by
 obtain ⟨k,rfl⟩:∃k:Nat,m=k:=⟨m.toNat,by omega⟩
 have hr:=right_first k (by omega)
 have hn:=fd_num k
 have bd:=fd_bd k
 rw [show (k:Int) / 12=((k / 12:Nat):Int) by omega,show (k:Int) % 12=((k % 12:Nat):Int) by omega] at hr hn
 obtain ⟨e1,e2⟩:=mon_divE k
 have hi:=fun w hL=>impl_dayof_in (1970+((k / 12:Nat):Int)) (((k % 12:Nat):Int)+1) 1 w hL hr
 have hs:=fun w=>spec_dayof_in (1970+((k / 12:Nat):Int)) (((k % 12:Nat):Int)+1) 1 w hr
 rw [hn] at hi hs
 rw [Int.add_comm ((k % 12:Nat):Int) 1] at hs
 exact ⟨_,fun w hL=>impl_start_inE k (k / 12) (k % 12) (fd k) (by omega) e1 e2 (by omega) (by omega) (by omega) (by omega) w hL hi,
  fun w=>spec_start_inE k (k / 12) (k % 12) (fd k) (by omega) e1 e2 (by omega) (by omega) (by omega) (by omega) w hs⟩
end DateR
namespace CatR
def cP (cs:List Cr):Nat→ByteArray
 | 0=>⟨#[]⟩
 | k+1=>cA cs k
theorem leq_yes {a p:ByteArray} (h:(Op.bytesLess a.toList p.toList||(a.toList==p.toList))=true):lt p a=false:=by
 rw [Bool.or_eq_true] at h
 rcases h with h|h
 ·exact lt_asymm h
 ·rw [toList_inj (beq_iff_eq.1 h)];exact lt_irrefl _
theorem leq_no {a p:ByteArray} (h:(Op.bytesLess a.toList p.toList||(a.toList==p.toList))=false):lt p a=true:=by
 rw [Bool.or_eq_false_iff] at h
 cases h2:lt p a
 ·have:=lt_total h2 h.1
  rw [this] at h
  simp at h
 ·rfl
theorem cs_le {cs:List Cr} {k:Nat} (hk:k<cs.length) (h:(Op.bytesLess (cA cs k).toList (cP cs k).toList||((cA cs k).toList==(cP cs k).toList))=true):csB cs=false:=by
 have h2:=leq_yes h
 match k,hk,h2 with
 | 0,hk,h2 =>
  refine cs_name hk ?_
  apply NameR.name_size
  rcases Nat.lt_or_ge (cA cs 0).size 1 with h3|h3
  ·exact .inl h3
  ·have:=lt_empty h3
   rw [show lt ⟨#[]⟩ (cA cs 0)=lt (cP cs 0) (cA cs 0) from rfl,h2] at this
   cases this
 | k+1,hk,h2=>exact cs_flat hk (by omega) h2
theorem cs_go {cs:List Cr} {k:Nat} (h:COk cs k) (hl:(Op.bytesLess (cA cs k).toList (cP cs k).toList||((cA cs k).toList==(cP cs k).toList))=false) (hn:NameR.nameB (cA cs k)=true) (hm:0≤cM cs k∧cM cs k≤1000000000000):COk cs (k+1):=by
 refine h.more hn hm (fun h0=>?_)
 have h2:=leq_no hl
 match k,h0,h2 with
 | k+1,_,h2=>exact h2
set_option maxRecDepth 100000 in
set_option maxHeartbeats 8000000 in
theorem impl_cs (ao:Option Addr) (len cap:Nat) (cs:List Cr) (w:World) (hlen:len≤1048576) (hS:∀i,i<len→(cs.getD i Cr.zero).a.size≤1048576) (hI:Crs ao len cs w) :
 Calls Tryz.prog 114 #[.slice ao len cap] w fun e w'=>e=.returned (.bool (csB cs))∧Below w.heap.size w w':=by
 have hz:=hI.1
 by_cases h6:6<len
 ·have h6':(6:Int)<(len:Int):=by omega
  have HR:=hid_intro (cs_many (cs:=cs) (by omega))
  clear hI hS
  go_enter Tryz.func114,Tryz.ntmps114
  go_wp2_with fail
  go_ret
  exact ⟨ret_bool HR.out.symm,Below.refl _ _⟩
 ·have h6':¬(6:Int)<(len:Int):=by omega
  have HI:=hid_intro hI
  have HS:=hid_intro hS
  have HZ:=hid_intro hz
  clear hI hS
  go_enter Tryz.func114,Tryz.ntmps114
  go_wp2_with fail
  go_loopw [3,11] (fun x z wr=>∃k:Nat,k≤len∧x=.string (cP cs k)∧z=.int .i64 k∧Hid (COk cs k)∧Hid (Below w.heap.size w wr)) (fun x z _=>len-(intOf z).toNat)
  case atStart=>exact ⟨0,by omega,rfl,rfl,hid_intro (COk.zero cs),hid_intro (Below.refl _ _)⟩
  case round =>
   obtain ⟨k,hk,rfl,rfl,HK,HB⟩:=hrel
   by_cases hlt:k<len
   ·have hlt2:(k:Int)<(len:Int):=by omega
    have hkl:k<cs.length:=by have:=HZ.out;omega
    obtain ⟨b,off,rfl,hbl,d0,d1⟩:=crs_at (HI.out.below HB.out) k hlt
    have c0:wr.cell? ⟨b,off+k*2,none⟩=some (.string (cA cs k)):=d0
    have c1:wr.cell? ⟨b,off+k*2+1,none⟩=some (.int .i64 (cM cs k)):=d1
    clear d0 d1
    have hsz:(cA cs k).size≤1048576:=HS.out k hlt
    have HN:=hid_intro (fun w=>NameR.impl_any (cA cs k) w hsz)
    have HW:=hid_intro (fun w=>within64 (cM cs k) 0 1000000000000 w)
    have HLE:=hid_intro (cs_le hkl)
    have HNA:=hid_intro (cs_name hkl)
    have HMI:=hid_intro (cs_micro hkl)
    have HGO:=hid_intro (cs_go HK.out)
    have HP:Hid (cP cs (k+1)=cA cs k):=rfl
    generalize NameR.nameB (cA cs k)=r at *
    generalize cA cs k=a at *
    generalize cP cs k=p at *
    generalize cM cs k=m at *
    have HAl:=hid_intro (fun o=>HB.out.alloc HB.out.size o)
    cases hle:(Op.bytesLess a.toList p.toList||(a.toList==p.toList))
    ·cases r
     ·have HR:=hid_intro (HNA.out rfl)
      go_wp2_with (first|(go_at_call 126;refine (HN.out _).mono ?_;rintro e w' ⟨rfl,rfl⟩)|(go_at_call 118;refine (HW.out _).mono ?_;rintro e w' ⟨rfl,rfl⟩))
      go_ret
      exact ⟨ret_bool HR.out.symm,HAl.out _⟩
     ·by_cases hm:0≤m∧m≤1000000000000
      ·have HM:=hid_intro (HGO.out hle rfl hm)
       rw [decide_eq_true hm] at HW
       go_wp2_with (first|(go_at_call 126;refine (HN.out _).mono ?_;rintro e w' ⟨rfl,rfl⟩)|(go_at_call 118;refine (HW.out _).mono ?_;rintro e w' ⟨rfl,rfl⟩))
       go_roundw
       case rel=>exact ⟨k+1,by omega,by rw [HP.out],by go_num,HM,hid_intro (HAl.out _)⟩
       case measure=>simp [intOf];omega
      ·have HR:=hid_intro (HMI.out hm)
       rw [decide_eq_false hm] at HW
       go_wp2_with (first|(go_at_call 126;refine (HN.out _).mono ?_;rintro e w' ⟨rfl,rfl⟩)|(go_at_call 118;refine (HW.out _).mono ?_;rintro e w' ⟨rfl,rfl⟩))
       go_ret
       exact ⟨ret_bool HR.out.symm,HAl.out _⟩
    ·have HR:=hid_intro (HLE.out hle)
     go_wp2_with fail
     go_ret
     exact ⟨ret_bool HR.out.symm,HAl.out _⟩
   ·obtain rfl:k=len:=by omega
    have HR:Hid (csB cs=true):=hid_intro (cs_end (by have:=HZ.out;omega) (by rw [HZ.out];exact HK.out))
    go_wp2_with fail
    go_ret
    exact ⟨ret_bool HR.out.symm,HB.out⟩
end CatR
namespace CatR
set_option maxHeartbeats 4000000 in
theorem impl_ca (v:Value) (c:Ca) (w:World) (hS:c.Small) (hC:IsCa v c w) (hL:Laid w) :
 Calls Tryz.prog 69 #[v] w fun e w'=>e=.returned (.bool (caB c))∧Below w.heap.size w w':=by
 obtain ⟨ma,mc,ca,cc,rfl,hM,hR⟩:=hC
 obtain ⟨ms,cs⟩:=c
 obtain ⟨s1,s2,s3,s4⟩:=hS
 simp only at *
 obtain ⟨V,hV⟩:=mes_v hM
 have HM:Hid (∀W,Below w.heap.size w W→Calls Tryz.prog 113 #[.slice ma ms.length mc] W fun e w'=>e=.returned (.bool (msB ms))∧Below W.heap.size W w'):=hid_intro (fun W hW=>impl_ms ma ms.length mc ms V W rfl s1 s2 (hV.below hW) (hL.below hW))
 have HR:Hid (∀W,Below w.heap.size w W→Calls Tryz.prog 114 #[.slice ca cs.length cc] W fun e w'=>e=.returned (.bool (csB cs))∧Below W.heap.size W w'):=hid_intro (fun W hW=>impl_cs ca cs.length cc cs W s3 s4 (hR.below hW))
 have HV:Hid (caB ⟨ms,cs⟩=(msB ms&&csB cs)):=rfl
 clear hM hR s1 s2 s3 s4 hV hL
 generalize msB ms=r1 at *
 generalize csB cs=r2 at *
 generalize caB ⟨ms,cs⟩=R at *
 generalize ms.length=ml at *
 generalize cs.length=cl at *
 have HB:Hid (Below w.heap.size w (w.alloc (.cells #[.slice ma ml mc,.slice ca cl cc] 40))):=hid_intro ((Below.refl _ _).alloc (Nat.le_refl _) _)
 have hw1:∀w1,Below (w.alloc (.cells #[.slice ma ml mc,.slice ca cl cc] 40)).heap.size (w.alloc (.cells #[.slice ma ml mc,.slice ca cl cc] 40)) w1→w.heap.size<w1.heap.size∧w1.cell? ⟨w.heap.size,1,none⟩=some (.slice ca cl cc):=fun w1 hb=>⟨by have:=hb.size;simp at this;omega,(hb.cell (p:=⟨w.heap.size,1,none⟩) (by simp)).trans (by simp [go_sem])⟩
 have HW1:=hid_intro hw1
 clear hw1
 go_enter Tryz.func69,Tryz.ntmps69
 go_wp2_with fail
 refine (HM.out _ HB.out).mono ?_
 rintro e w1 ⟨rfl,hb1⟩
 have HB1:=hid_intro (HB.out.trans (hb1.mono HB.out.size))
 obtain ⟨hl,p1⟩:=HW1.out _ hb1
 clear hb1
 cases r1
 ·go_wp2_with fail
  go_ret
  exact ⟨ret_bool (by rw [HV.out];rfl),HB1.out⟩
 ·go_wp2_with fail
  refine (HR.out _ HB1.out).mono ?_
  rintro e w2 ⟨rfl,hb2⟩
  have HB2:=hid_intro (HB1.out.trans (hb2.mono HB1.out.size))
  clear hb2
  go_wp2_with fail
  go_ret
  exact ⟨ret_bool (by rw [HV.out];rfl),HB2.out⟩
end CatR
end Go.Proofs.YtmalfhhkjdkadaaGreatDoor
