/-
  A day's date, the program's side. The condition: the program's table stands in its variable.
-/
import Derived.Test.YtnceeaccbcfopaaGreatDoorT70
namespace Go.Proofs.YtnceeaccbcfopaaGreatDoor
open Go.ChangeShapes Go.WideShapes Go.ChangeAt Go.RowKit
set_option linter.unusedVariables false
namespace DateR
open DateM
theorem less_month (y left:Int) (j J:Nat) (h1:ms y J≤left) (h2:left<ms y (J+1)) (hj:j≤J) (hJ:J<12) (y1:1970≤y) (y2:y≤2200) :
 ∃L X:Int,L=left-ms y j∧X=mdays y ((j:Int)+1)∧0≤L∧L≤400∧28≤X∧X≤31∧(j<J→¬L<X)∧(j=J→L<X)∧L-X=left-ms y (j+1):=by
 have a:=ms_mono y hj
 have b:=ms_bd y (J+1)
 have b2:=ms_bd y j
 have c:mdays y ((j:Int)+1)=md y ((j:Int)+1):=if_pos (by omega)
 have d:=md_bd y ((j:Int)+1)
 have e:=ms_succ y j
 refine ⟨_,_,rfl,rfl,by omega,by omega,by omega,by omega,fun h=>?_,fun h=>?_,by omega⟩
 ·have:=ms_mono y (show j+1≤J from h)
  omega
 ·subst h;omega
set_option maxRecDepth 100000 in
set_option maxHeartbeats 4000000 in
theorem iny (y left:Int) (J:Nat) (h1:ms y J≤left) (h2:left<ms y (J+1)) (hJ:J<12) (y1:1970≤y) (y2:y≤2200) (w:World) (hL:Laid w) :
 Calls Tryz.prog 229 #[.int .i64 y,.int .i64 left] w fun e w'=>e=.returned (date y ((J:Int)+1) (left-ms y J+1))∧Below w.heap.size w w':=by
 have HB0:=H_ ((Below.refl w.heap.size w).alloc (Nat.le_refl _) (Obj.cells #[.int .i64 0,.int .i64 0,.int .i64 0] 163))
 have HL:=H_ (hL.below HB0.out)
 have H:=fun j hj=>less_month y left j J h1 h2 hj hJ y1 y2
 have HH:=H_ H
 clear H hL h1 h2
 go_enter Tryz.func229,Tryz.ntmps229
 go_wp2_with fail
 go_loop [1,7] (fun x z=>∃j:Nat,j≤J∧z=.int .i64 j∧x=.int .i64 (left-ms y j)) (fun _ z=>J+1-(intOf z).toNat)
 case atStart=>exact ⟨0,by omega,rfl,by simp [ms]⟩
 case round =>
  obtain ⟨j,hj,rfl,rfl⟩:=hrel
  obtain ⟨L,X,hLe,hX,l0,l1,x0,x1,f1,f2,f3⟩:=HH.out j hj
  have HI:=H_ (impl_md y ((j:Int)+1) _ HL.out)
  rw [←hX] at HI
  rw [←hLe]
  have HF:=H_ f3
  have j2:(j:Int)<12:=by omega
  have HLe:=H_ hLe
  clear hLe hX f3
  by_cases hlt:j<J
  ·have hn:=f1 hlt
   clear f1 f2
   go_wp2_with (go_at_call 203;refine HI.out.mono ?_;rintro e w' ⟨rfl,rfl⟩)
   go_round
   case rel=>exact ⟨j+1,by omega,by go_num,by rw [HF.out]⟩
   case measure=>simp [intOf];omega
  ·obtain rfl:j=J:=by omega
   have hn:=f2 rfl
   clear f1 f2
   go_wp2_with (go_at_call 203;refine HI.out.mono ?_;rintro e w' ⟨rfl,rfl⟩)
   rw [←HLe.out]
   refine bodyPost_ret (v:=date y ((j:Int)+1) (L+1)) (by simp [date,results,Tryz.results229,go_sem]) rfl ⟨rfl,?_⟩
   repeat' first|exact HB0.out|apply Below.setCell
   all_goals first|exact Nat.le_refl _|exact (Below.refl _ _).alloc (Nat.le_refl _) _
theorem less_year (day:Int) (j K:Nat) (h1:ys K≤day) (h2:day<ys (K+1)) (hj:j≤K) (hd:day≤100000) :
 ∃L X:Int,L=day-ys j∧X=yd (1970+(j:Int))∧0≤L∧L≤100000∧365≤X∧X≤366∧(j<K→¬L<X)∧(j=K→L<X)∧L-X=day-ys (j+1):=by
 have a:=ys_mono hj
 have b2:=ys_bd j
 have d:=yd_bd (1970+(j:Int))
 have e:=ys_succ j
 refine ⟨_,_,rfl,rfl,by omega,by omega,by omega,by omega,fun h=>?_,fun h=>?_,by omega⟩
 ·have:=ys_mono (show j+1≤K from h)
  omega
 ·subst h;omega
set_option maxRecDepth 100000 in
set_option maxHeartbeats 4000000 in
theorem impl_dateof_in (day:Int) (K J:Nat) (d0:0≤day) (d1:day≤100000) (h1:ys K≤day) (h2:day<ys (K+1)) (hK:K≤230) (m1:ms (1970+(K:Int)) J≤day-ys K) (m2:day-ys K<ms (1970+(K:Int)) (J+1)) (hJ:J<12) (w:World) (hL:Laid w) :
 Calls Tryz.prog 227 #[.int .i64 day] w fun e w'=>e=.returned (date (1970+(K:Int)) ((J:Int)+1) (day-ys K-ms (1970+(K:Int)) J+1))∧Below w.heap.size w w':=by
 have HB0:=H_ ((Below.refl w.heap.size w).alloc (Nat.le_refl _) (Obj.cells #[.int .i64 0,.int .i64 0,.int .i64 0] 163))
 have HL:=H_ (hL.below HB0.out)
 have HH:=H_ (fun j hj=>less_year day j K h1 h2 hj d1)
 have HY:=H_ (fun w hL=>iny (1970+(K:Int)) (day-ys K) J m1 m2 hJ (by omega) (by omega) w hL)
 clear hL h1 h2 m1 m2
 go_enter Tryz.func227,Tryz.ntmps227
 go_wp2_with (first|(go_at_call 228;go_in)|(go_at_call 30;go_in))
 go_loop [3,11] (fun x z=>∃j:Nat,j≤K∧z=.int .i64 j∧x=.int .i64 (day-ys j)) (fun _ z=>K+1-(intOf z).toNat)
 case atStart=>exact ⟨0,by omega,rfl,by simp [ys]⟩
 case round =>
  obtain ⟨j,hj,rfl,rfl⟩:=hrel
  obtain ⟨L,X,hLe,hX,l0,l1,x0,x1,f1,f2,f3⟩:=HH.out j hj
  have HI:=H_ (fun w=>impl_yd (1970+(j:Int)) w)
  rw [←hX] at HI
  rw [←hLe]
  have HF:=H_ f3
  have j2:(j:Int)<231:=by omega
  have HLe:=H_ hLe
  clear hLe hX f3
  by_cases hlt:j<K
  ·have hn:=f1 hlt
   clear f1 f2
   go_wp2_with (go_at_call 202;refine (HI.out _).mono ?_;rintro e w' ⟨rfl,rfl⟩)
   go_round
   case rel=>exact ⟨j+1,by omega,by go_num,by rw [HF.out]⟩
   case measure=>simp [intOf];omega
  ·obtain rfl:j=K:=by omega
   have hn:=f2 rfl
   rw [←HLe.out] at HY
   obtain ⟨D,hD⟩:∃D,D=L-ms (1970+(j:Int)) J+1:=⟨_,rfl⟩
   rw [←hD] at HY
   have HD:=H_ hD
   clear f1 f2 hD HH
   unfold date at *
   go_wp2_with (first|(go_at_call 202;refine (HI.out _).mono ?_;rintro e w' ⟨rfl,rfl⟩)|(go_at_call 229;refine (HY.out _ HL.out).mono ?_;rintro e w2 ⟨rfl,hb⟩;obtain ⟨hc,hz⟩:=bcell hb))
   refine bodyPost_ret (v:=date (1970+(j:Int)) ((J:Int)+1) D) (by simp [date,results,Tryz.results227,go_sem,hc]) rfl ⟨by rw [HD.out,HLe.out],?_⟩
   exact (((bel_alloc hb).setCell (by simp) _).setCell (by simp) _).setCell (by simp) _
theorem past_year (day:Int) (j K:Nat) (h1:ys K≤day) (hK:231≤K) (hj:j≤231) (hd:day≤100000) (d0:0≤day) :
 ∃L X:Int,L=day-ys j∧X=yd (1970+(j:Int))∧0≤L∧L≤100000∧365≤X∧X≤366∧(j<231→¬L<X)∧L-X=day-ys (j+1):=by
 have a:=ys_mono (show j≤K by omega)
 have b2:=ys_bd j
 have d:=yd_bd (1970+(j:Int))
 have e:=ys_succ j
 refine ⟨_,_,rfl,rfl,by omega,by omega,by omega,by omega,fun h=>?_,by omega⟩
 have:=ys_mono (show j+1≤K by omega)
 omega
set_option maxRecDepth 100000 in
set_option maxHeartbeats 4000000 in
theorem impl_dateof_past (day:Int) (K:Nat) (d0:0≤day) (d1:day≤100000) (h1:ys K≤day) (hK:231≤K) (w:World) :
 Calls Tryz.prog 227 #[.int .i64 day] w fun e w'=>e=.returned (date 0 0 0)∧Below w.heap.size w w':=by
 have HB0:=H_ ((Below.refl w.heap.size w).alloc (Nat.le_refl _) (Obj.cells #[.int .i64 0,.int .i64 0,.int .i64 0] 163))
 have HH:=H_ (fun j hj=>past_year day j K h1 hK hj d1 d0)
 clear h1 hK
 go_enter Tryz.func227,Tryz.ntmps227
 go_wp2_with (first|(go_at_call 228;go_in)|(go_at_call 30;go_in))
 go_loop [3,11] (fun x z=>∃j:Nat,j≤231∧z=.int .i64 j∧x=.int .i64 (day-ys j)) (fun _ z=>232-(intOf z).toNat)
 case atStart=>exact ⟨0,by omega,rfl,by simp [ys]⟩
 case round =>
  obtain ⟨j,hj,rfl,rfl⟩:=hrel
  obtain ⟨L,X,hLe,hX,l0,l1,x0,x1,f1,f3⟩:=HH.out j hj
  have HI:=H_ (fun w=>impl_yd (1970+(j:Int)) w)
  rw [←hX] at HI
  rw [←hLe]
  have HF:=H_ f3
  clear hLe hX f3
  by_cases hlt:j<231
  ·have hn:=f1 hlt
   have j2:(j:Int)<231:=by omega
   clear f1
   go_wp2_with (go_at_call 202;refine (HI.out _).mono ?_;rintro e w' ⟨rfl,rfl⟩)
   go_round
   case rel=>exact ⟨j+1,by omega,by go_num,by rw [HF.out]⟩
   case measure=>simp [intOf];omega
  ·have j2:¬(j:Int)<231:=by omega
   clear f1
   go_wp2_with fail
   refine bodyPost_ret (v:=date 0 0 0) (by simp [date,results,Tryz.results227,go_sem]) rfl ⟨rfl,?_⟩
   repeat' first|exact HB0.out|apply Below.setCell
   all_goals first|exact Nat.le_refl _|exact (Below.refl _ _).alloc (Nat.le_refl _) _
theorem impl_dateof_none (day:Int) (h:day<0∨100000<day) (w:World) :
 Calls Tryz.prog 227 #[.int .i64 day] w fun e w'=>e=.returned (date 0 0 0)∧Below w.heap.size w w':=by
 have key:(¬0≤day)∨(0≤day∧¬day≤100000):=by omega
 clear h
 rcases key with h1|⟨h1,h2⟩
 all_goals
  go_enter Tryz.func227,Tryz.ntmps227
  go_wp2
  refine bodyPost_ret (v:=date 0 0 0) (by simp [date,results,Tryz.results227,go_sem]) rfl ⟨rfl,?_⟩
  repeat' first|exact Below.refl _ _|apply Below.setCell|apply Below.alloc
  all_goals first|omega|(simp;done)|(simp;omega)
end DateR
end Go.Proofs.YtnceeaccbcfopaaGreatDoor
