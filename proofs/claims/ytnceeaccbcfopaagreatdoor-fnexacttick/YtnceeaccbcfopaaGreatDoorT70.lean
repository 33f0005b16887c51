/-
  A date's day: either side tells the same. The condition: the program's table stands in its variable.
-/
import Derived.Test.YtnceeaccbcfopaaGreatDoorT69
namespace Go.Proofs.YtnceeaccbcfopaaGreatDoor
open Go.ChangeShapes Go.WideShapes Go.ChangeAt Go.RowKit
set_option linter.unusedVariables false
namespace DateR
open DateM
theorem impl_yd (y:Int) (w:World):Calls Tryz.prog 202 #[.int .i64 y] w fun e w'=>e=.returned (.int .i64 (yd y))∧w'=w:=by
 have hi:=fun w=>impl_leap y w
 unfold yd
 cases hl:leapB y
 all_goals
  rw [hl] at hi
  clear hl
  go_enter Tryz.func202,Tryz.ntmps202
  go_wp2_with (go_at_call 218;refine (hi _).mono ?_;rintro e w' ⟨rfl,rfl⟩)
  go_ret
  exact ⟨rfl,rfl⟩
theorem spec_yd (y:Int) (w:World):Calls Tryz.prog 157 #[.int .i64 y] w fun e w'=>e=.returned (.int .i64 (yd y))∧w'=w:=by
 have hi:=fun w=>spec_leap y w
 unfold yd
 cases hl:leapB y
 all_goals
  rw [hl] at hi
  clear hl
  go_enter Tryz.func157,Tryz.ntmps157
  go_wp2_with (go_at_call 194;refine (hi _).mono ?_;rintro e w' ⟨rfl,rfl⟩)
  go_ret
  exact ⟨rfl,rfl⟩
theorem add_year (D:Int) (k:Nat) (h1:0≤D) (h2:D≤30) (hk:k≤230):wrap64 (D+ys k+yd (1970+(k:Int)))=D+ys (k+1):=by
 have a:=ys_bd k
 have b:=yd_bd (1970+(k:Int))
 rw [ys_succ]
 unfold wrap64
 omega
theorem add_month (E y:Int) (k:Nat) (h1:0≤E) (h2:E≤90000) (hk:k<12) (y1:1970≤y) (y2:y≤2200):wrap64 (E+ms y k+mdays y ((k:Int)+1))=E+ms y (k+1):=by
 have a:=ms_bd y k
 have b:=md_bd y ((k:Int)+1)
 have c:mdays y ((k:Int)+1)=md y ((k:Int)+1):=if_pos (by omega)
 rw [c,ms_succ]
 unfold wrap64
 omega
theorem day_parts (y m d:Int) (h:rightB y m d=true):∃K M:Nat,K≤230∧M≤11∧y-1970=(K:Int)∧m-1=(M:Int)∧1≤d∧d≤31∧Hid (num y m d=d-1+ys K+ms y M)∧1970≤y∧y≤2200∧1≤m∧m≤12:=by
 obtain ⟨y1,y2,m1,m2,d1,d2⟩:=(right_iff y m d).1 h
 have b:=md_bd y m
 refine ⟨(y-1970).toNat,(m-1).toNat,by omega,by omega,by omega,by omega,d1,by omega,rfl,y1,y2,m1,m2⟩
set_option maxHeartbeats 4000000 in
theorem impl_dayof_in (y m d:Int) (w:World) (hL:Laid w) (h:rightB y m d=true) :
 Calls Tryz.prog 171 #[date y m d] w fun e w'=>e=.returned (.int .i64 (num y m d))∧Below w.heap.size w w':=by
 obtain ⟨K,M,hK,hM,eK,eM,d1,d2,HN,y1,y2,m1,m2⟩:=day_parts y m d h
 have hr:=fun w hL=>impl_right y m d w hL
 rw [h] at hr
 have HL0:=H_ (hL.below ((Below.refl _ _).alloc (Nat.le_refl _) (Obj.cells #[.int .i64 y,.int .i64 m,.int .i64 d] 163)))
 have HB0:=H_ ((Below.refl w.heap.size w).alloc (Nat.le_refl _) (Obj.cells #[.int .i64 y,.int .i64 m,.int .i64 d] 163))
 clear h hL
 unfold date at *
 go_enter Tryz.func171,Tryz.ntmps171
 go_wp2_with fail
 refine (hr _ HL0.out).mono ?_
 rintro e w1 ⟨rfl,hb1⟩
 have g0:=hb1.cell (p:=⟨w.heap.size,0,none⟩) (by simp)
 have g1:=hb1.cell (p:=⟨w.heap.size,1,none⟩) (by simp)
 have g2:=hb1.cell (p:=⟨w.heap.size,2,none⟩) (by simp)
 simp [go_sem] at g0 g1 g2
 have HB:=H_ (HB0.out.trans (hb1.mono (by simp)))
 have HL:=H_ (HL0.out.below hb1)
 clear hb1 HB0 HL0
 go_wp2_with fail
 go_loop [3,15] (fun x z=>∃k:Nat,k≤K∧z=.int .i64 k∧x=.int .i64 (d-1+ys k)) (fun _ z=>K-(intOf z).toNat)
 case atStart=>exact ⟨0,by omega,rfl,by simp [ys]⟩
 case round =>
  obtain ⟨k,hk,rfl,rfl⟩:=hrel
  by_cases hlt:k<K
  ·have hs:=H_ (add_year (d-1) k (by omega) (by omega) (by omega))
   have hk2:(k:Int)≤230:=by omega
   go_wp2_with (go_at_call 202;refine (impl_yd _ _).mono ?_;rintro e w' ⟨rfl,rfl⟩)
   go_round
   case rel=>exact ⟨k+1,by omega,by go_num,by rw [hs.out]⟩
   case measure=>simp [intOf];omega
  ·obtain rfl:k=K:=by omega
   obtain ⟨E,hE⟩:∃E,E=d-1+ys k:=⟨_,rfl⟩
   have hE2:0≤E∧E≤90000:=by have:=ys_bd k;omega
   rw [←hE] at HN ⊢
   clear hE
   go_wp2_with fail
   go_loop [3,27] (fun x z=>∃j:Nat,j≤M∧z=.int .i64 j∧x=.int .i64 (E+ms y j)) (fun _ z=>M-(intOf z).toNat)
   case atStart=>exact ⟨0,by omega,rfl,by simp [ms]⟩
   case round =>
    obtain ⟨j,hj,rfl,rfl⟩:=hrel
    by_cases hlt2:j<M
    ·have hs:=H_ (add_month E y j hE2.1 hE2.2 (by omega) y1 y2)
     have hk2:(j:Int)≤11:=by omega
     go_wp2_with (go_at_call 203;refine (impl_md _ _ _ HL.out).mono ?_;rintro e w' ⟨rfl,rfl⟩)
     go_round
     case rel=>exact ⟨j+1,by omega,by go_num,by rw [hs.out]⟩
     case measure=>simp [intOf];omega
    ·obtain rfl:j=M:=by omega
     go_wp2_with fail
     go_ret
     exact ⟨ret_int HN.out.symm,HB.out⟩
set_option maxHeartbeats 4000000 in
theorem spec_dayof_in (y m d:Int) (w:World) (h:rightB y m d=true) :
 Calls Tryz.prog 112 #[date y m d] w fun e w'=>e=.returned (.int .i64 (num y m d))∧Below w.heap.size w w':=by
 obtain ⟨K,M,hK,hM,eK,eM,d1,d2,HN,y1,y2,m1,m2⟩:=day_parts y m d h
 have eY:y=1970+(K:Int):=by omega
 have eM2:m=(M:Int)+1:=by omega
 have hr:=fun w=>spec_right y m d w
 rw [h] at hr
 have HB0:=H_ ((Below.refl w.heap.size w).alloc (Nat.le_refl _) (Obj.cells #[.int .i64 y,.int .i64 m,.int .i64 d] 163))
 clear h eK eM
 subst eY eM2
 unfold date at *
 go_enter Tryz.func112,Tryz.ntmps112
 go_wp2_with fail
 refine (hr _).mono ?_
 rintro e w1 ⟨rfl,hb1⟩
 have g0:=hb1.cell (p:=⟨w.heap.size,0,none⟩) (by simp)
 have g1:=hb1.cell (p:=⟨w.heap.size,1,none⟩) (by simp)
 have g2:=hb1.cell (p:=⟨w.heap.size,2,none⟩) (by simp)
 have hsz:w.heap.size<w1.heap.size:=by have:=hb1.size;simp at this;omega
 simp [go_sem] at g0 g1 g2
 have HB:=H_ (HB0.out.trans (hb1.mono (by simp)))
 clear hb1 HB0
 go_wp2_with fail
 go_loop [3,4] (fun x z=>∃k:Nat,k≤K∧z=.int .i64 (1970+(k:Int))∧x=.int .i64 (d-1+ys k)) (fun _ z=>K+1970-(intOf z).toNat)
 case atStart=>exact ⟨0,by omega,rfl,by simp [ys]⟩
 case round =>
  obtain ⟨k,hk,rfl,rfl⟩:=hrel
  by_cases hlt:k<K
  ·have hs:=H_ (add_year (d-1) k (by omega) (by omega) (by omega))
   have hk2:(k:Int)≤230:=by omega
   have hlt2:(1970:Int)+k<1970+K:=by omega
   go_wp2_with (go_at_call 157;refine (spec_yd _ _).mono ?_;rintro e w' ⟨rfl,rfl⟩)
   go_round
   case rel=>exact ⟨k+1,by omega,by go_num,by rw [hs.out]⟩
   case measure=>simp [intOf];omega
  ·obtain rfl:k=K:=by omega
   obtain ⟨E,hE⟩:∃E,E=d-1+ys k:=⟨_,rfl⟩
   have hE2:0≤E∧E≤90000:=by have:=ys_bd k;omega
   rw [←hE] at HN ⊢
   clear hE
   go_wp2_with fail
   go_loopw [3,5] (fun x z wr=>∃j:Nat,j≤M∧z=.int .i64 ((j:Int)+1)∧x=.int .i64 (E+ms (1970+(k:Int)) j)∧Hid (Below w1.heap.size w1 wr)) (fun _ z _=>M+1-(intOf z).toNat)
   case atStart=>exact ⟨0,by omega,rfl,by simp [ms],Below.refl _ _⟩
   case round =>
    obtain ⟨j,hj,rfl,rfl,HR⟩:=hrel
    have q0:=(HR.out.cell (p:=⟨w.heap.size,0,none⟩) hsz).trans g0
    have q1:=(HR.out.cell (p:=⟨w.heap.size,1,none⟩) hsz).trans g1
    by_cases hlt2:j<M
    ·have hs:=H_ (add_month E (1970+(k:Int)) j hE2.1 hE2.2 (by omega) y1 y2)
     have hk2:(j:Int)+1≤12:=by omega
     have hlt3:(j:Int)+1<(M:Int)+1:=by omega
     go_wp2_with (go_at_call 158;refine (spec_md _ _ _).mono ?_;rintro e w' ⟨rfl,hb⟩)
     have HR2:=H_ (HR.out.trans (hb.mono HR.out.size))
     clear hb
     go_roundw
     case rel=>exact ⟨j+1,by omega,by go_num,by rw [hs.out],HR2⟩
     case measure=>simp [intOf];omega
    ·obtain rfl:j=M:=by omega
     go_wp2_with fail
     go_ret
     exact ⟨ret_int HN.out.symm,HB.out.trans (HR.out.mono HB.out.size)⟩
end DateR
end Go.Proofs.YtnceeaccbcfopaaGreatDoor
