/-
  A day's date, the program's side.
  A day's date, the model's side.
  A day's date: both sides hand back the same; of a day within the years it is a right date, whose day is that one.
  A right minute's month: both sides hand back the same; whether an hour lies in a month.
  What the program calls a right window.
  What the program calls a window's right tags.
  What the program calls a window's right hours.
  The conditions stand in what each theorem says.
-/
import Derived.Test.YtnceeaccbcfopaaGreatDoorT13
set_option maxRecDepth 100000
set_option maxHeartbeats 16000000
namespace Go.Proofs.YtnceeaccbcfopaaGreatDoor
open Go.ChangeShapes Go.WideShapes Go.ChangeAt Go.RowKit
set_option linter.unusedVariables false
namespace DateR
open DateM
theorem less_month (y left:Int) (j J:Nat) (h1:ms y J≤left) (h2:left<ms y (J+1)) (hj:j≤J) (hJ:J<12) (y1:1970≤y) (y2:y≤2200) :
 ∃L X:Int,L=left-ms y j∧X=mdays y ((j:Int)+1)∧0≤L∧L≤400∧28≤X∧X≤31∧(j<J→¬L<X)∧(j=J→L<X)∧L-X=left-ms y (j+1):=by
 have a:=ms_mono y hj
 have b:=ms_bd y (J+1)
 have b2:=ms_bd y j
 have c:mdays y ((j:Int)+1)=md y ((j:Int)+1):=if_pos (by omega)
 have d:=md_bd y ((j:Int)+1)
 have e:=ms_succ y j
 refine ⟨_,_,rfl,rfl,by omega,by omega,by omega,by omega,fun h=>?_,fun h=>?_,by omega⟩
 ·have:=ms_mono y (show j+1≤J from h)
  omega
 ·subst h;omega
theorem iny (y left:Int) (J:Nat) (h1:ms y J≤left) (h2:left<ms y (J+1)) (hJ:J<12) (y1:1970≤y) (y2:y≤2200) (w:World) (hL:Laid w) :
 Calls Tryz.prog 229 #[.int .i64 y,.int .i64 left] w fun e w'=>e=.returned (date y ((J:Int)+1) (left-ms y J+1))∧Below w.heap.size w w':=by
 have HB0:=H_ (al_ w (Obj.cells #[.int .i64 0,.int .i64 0,.int .i64 0] 163))
 have HL:=H_ (hL.below HB0.out)
 have H:=fun j hj=>less_month y left j J h1 h2 hj hJ y1 y2
 have HH:=H_ H
 clear H hL h1 h2
 go_enter Tryz.func229,Tryz.ntmps229
 go_wp2_with fail
 go_loop [1,7] (fun x z=>∃j:Nat,j≤J∧z=.int .i64 j∧x=.int .i64 (left-ms y j)) (fun _ z=>J+1-(intOf z).toNat)
 case atStart=>exact ⟨0,by omega,rfl,by simp [ms]⟩
 case round =>
  obtain ⟨j,hj,rfl,rfl⟩:=hrel
  obtain ⟨L,X,hLe,hX,l0,l1,x0,x1,f1,f2,f3⟩:=HH.out j hj
  have HI:=H_ (impl_md y ((j:Int)+1) _ HL.out)
  rw [←hX] at HI
  rw [←hLe]
  have HF:=H_ f3
  have j2:(j:Int)<12:=by omega
  have HLe:=H_ hLe
  clear hLe hX f3
  by_cases hlt:j<J
  ·have hn:=f1 hlt
   clear f1 f2
   go_wp2_with (go_at_call 203;refine HI.out.mono ?_;rintro e w' ⟨rfl,rfl⟩)
   go_round
   case rel=>exact ⟨j+1,by omega,by go_num,by rw [HF.out]⟩
   case measure=>simp [intOf];omega
  ·obtain rfl:j=J:=by omega
   have hn:=f2 rfl
   clear f1 f2
   go_wp2_with (go_at_call 203;refine HI.out.mono ?_;rintro e w' ⟨rfl,rfl⟩)
   rw [←HLe.out]
   refine bodyPost_ret (v:=date y ((j:Int)+1) (L+1)) (by simp [date,results,Tryz.results229,go_sem]) rfl ⟨rfl,?_⟩
   repeat' first|exact HB0.out|apply Below.setCell
   all_goals first|exact Nat.le_refl _|exact (Below.refl _ _).alloc (Nat.le_refl _) _
theorem less_year (day:Int) (j K:Nat) (h1:ys K≤day) (h2:day<ys (K+1)) (hj:j≤K) (hd:day≤100000) :
 ∃L X:Int,L=day-ys j∧X=yd (1970+(j:Int))∧0≤L∧L≤100000∧365≤X∧X≤366∧(j<K→¬L<X)∧(j=K→L<X)∧L-X=day-ys (j+1):=by
 have a:=ys_mono hj
 have b2:=ys_bd j
 have d:=yd_bd (1970+(j:Int))
 have e:=ys_succ j
 refine ⟨_,_,rfl,rfl,by omega,by omega,by omega,by omega,fun h=>?_,fun h=>?_,by omega⟩
 ·have:=ys_mono (show j+1≤K from h)
  omega
 ·subst h;omega
theorem impl_dateof_in (day:Int) (K J:Nat) (d0:0≤day) (d1:day≤100000) (h1:ys K≤day) (h2:day<ys (K+1)) (hK:K≤230) (m1:ms (1970+(K:Int)) J≤day-ys K) (m2:day-ys K<ms (1970+(K:Int)) (J+1)) (hJ:J<12) (w:World) (hL:Laid w) :
 Calls Tryz.prog 227 #[.int .i64 day] w fun e w'=>e=.returned (date (1970+(K:Int)) ((J:Int)+1) (day-ys K-ms (1970+(K:Int)) J+1))∧Below w.heap.size w w':=by
 have HB0:=H_ (al_ w (Obj.cells #[.int .i64 0,.int .i64 0,.int .i64 0] 163))
 have HL:=H_ (hL.below HB0.out)
 have HH:=H_ (fun j hj=>less_year day j K h1 h2 hj d1)
 have HY:=H_ (fun w hL=>iny (1970+(K:Int)) (day-ys K) J m1 m2 hJ (by omega) (by omega) w hL)
 clear hL h1 h2 m1 m2
 go_enter Tryz.func227,Tryz.ntmps227
 go_wp2_with (first|(go_at_call 228;go_in)|(go_at_call 30;go_in))
 go_loop [3,11] (fun x z=>∃j:Nat,j≤K∧z=.int .i64 j∧x=.int .i64 (day-ys j)) (fun _ z=>K+1-(intOf z).toNat)
 case atStart=>exact ⟨0,by omega,rfl,by simp [ys]⟩
 case round =>
  obtain ⟨j,hj,rfl,rfl⟩:=hrel
  obtain ⟨L,X,hLe,hX,l0,l1,x0,x1,f1,f2,f3⟩:=HH.out j hj
  have HI:=H_ (fun w=>impl_yd (1970+(j:Int)) w)
  rw [←hX] at HI
  rw [←hLe]
  have HF:=H_ f3
  have j2:(j:Int)<231:=by omega
  have HLe:=H_ hLe
  clear hLe hX f3
  by_cases hlt:j<K
  ·have hn:=f1 hlt
   clear f1 f2
   go_wp2_with (go_at_call 202;refine (HI.out _).mono ?_;rintro e w' ⟨rfl,rfl⟩)
   go_round
   case rel=>exact ⟨j+1,by omega,by go_num,by rw [HF.out]⟩
   case measure=>simp [intOf];omega
  ·obtain rfl:j=K:=by omega
   have hn:=f2 rfl
   rw [←HLe.out] at HY
   obtain ⟨D,hD⟩:∃D,D=L-ms (1970+(j:Int)) J+1:=⟨_,rfl⟩
   rw [←hD] at HY
   have HD:=H_ hD
   clear f1 f2 hD HH
   unfold date at *
   go_wp2_with (first|(go_at_call 202;refine (HI.out _).mono ?_;rintro e w' ⟨rfl,rfl⟩)|(go_at_call 229;refine (HY.out _ HL.out).mono ?_;rintro e w2 ⟨rfl,hb⟩;obtain ⟨hc,hz⟩:=bcell hb))
   refine bodyPost_ret (v:=date (1970+(j:Int)) ((J:Int)+1) D) (by simp [date,results,Tryz.results227,go_sem,hc]) rfl ⟨by rw [HD.out,HLe.out],?_⟩
   exact (((bel_alloc hb).setCell (by simp) _).setCell (by simp) _).setCell (by simp) _
theorem past_year (day:Int) (j K:Nat) (h1:ys K≤day) (hK:231≤K) (hj:j≤231) (hd:day≤100000) (d0:0≤day) :
 ∃L X:Int,L=day-ys j∧X=yd (1970+(j:Int))∧0≤L∧L≤100000∧365≤X∧X≤366∧(j<231→¬L<X)∧L-X=day-ys (j+1):=by
 have a:=ys_mono (show j≤K by omega)
 have b2:=ys_bd j
 have d:=yd_bd (1970+(j:Int))
 have e:=ys_succ j
 refine ⟨_,_,rfl,rfl,by omega,by omega,by omega,by omega,fun h=>?_,by omega⟩
 have:=ys_mono (show j+1≤K by omega)
 omega
theorem impl_dateof_past (day:Int) (K:Nat) (d0:0≤day) (d1:day≤100000) (h1:ys K≤day) (hK:231≤K) (w:World) :
 Calls Tryz.prog 227 #[.int .i64 day] w fun e w'=>e=.returned (date 0 0 0)∧Below w.heap.size w w':=by
 have HB0:=H_ (al_ w (Obj.cells #[.int .i64 0,.int .i64 0,.int .i64 0] 163))
 have HH:=H_ (fun j hj=>past_year day j K h1 hK hj d1 d0)
 clear h1 hK
 go_enter Tryz.func227,Tryz.ntmps227
 go_wp2_with (first|(go_at_call 228;go_in)|(go_at_call 30;go_in))
 go_loop [3,11] (fun x z=>∃j:Nat,j≤231∧z=.int .i64 j∧x=.int .i64 (day-ys j)) (fun _ z=>232-(intOf z).toNat)
 case atStart=>exact ⟨0,by omega,rfl,by simp [ys]⟩
 case round =>
  obtain ⟨j,hj,rfl,rfl⟩:=hrel
  obtain ⟨L,X,hLe,hX,l0,l1,x0,x1,f1,f3⟩:=HH.out j hj
  have HI:=H_ (fun w=>impl_yd (1970+(j:Int)) w)
  rw [←hX] at HI
  rw [←hLe]
  have HF:=H_ f3
  clear hLe hX f3
  by_cases hlt:j<231
  ·have hn:=f1 hlt
   have j2:(j:Int)<231:=by omega
   clear f1
   go_wp2_with (go_at_call 202;refine (HI.out _).mono ?_;rintro e w' ⟨rfl,rfl⟩)
   go_round
   case rel=>exact ⟨j+1,by omega,by go_num,by rw [HF.out]⟩
   case measure=>simp [intOf];omega
  ·have j2:¬(j:Int)<231:=by omega
   clear f1
   go_wp2_with fail
   refine bodyPost_ret (v:=date 0 0 0) (by simp [date,results,Tryz.results227,go_sem]) rfl ⟨rfl,?_⟩
   repeat' first|exact HB0.out|apply Below.setCell
   all_goals first|exact Nat.le_refl _|exact (Below.refl _ _).alloc (Nat.le_refl _) _
theorem impl_dateof_none (day:Int) (h:day<0∨100000<day) (w:World) :
 Calls Tryz.prog 227 #[.int .i64 day] w fun e w'=>e=.returned (date 0 0 0)∧Below w.heap.size w w':=by
 have key:(¬0≤day)∨(0≤day∧¬day≤100000):=by omega
 clear h
 rcases key with h1|⟨h1,h2⟩
 all_goals
  go_enter Tryz.func227,Tryz.ntmps227
  go_wp2
  refine bodyPost_ret (v:=date 0 0 0) (by simp [date,results,Tryz.results227,go_sem]) rfl ⟨rfl,?_⟩
  repeat' first|exact Below.refl _ _|apply Below.setCell|apply Below.alloc
  all_goals first|omega|(simp;done)|(simp;omega)
end DateR
namespace DateR
open DateM
structure Two (w wr:World) (y m:Int):Prop where
 bel:Below w.heap.size w wr
 lt:w.heap.size+1<wr.heap.size
 r0:wr.cell? ⟨w.heap.size,0,none⟩=some (.int .i64 0)
 r1:wr.cell? ⟨w.heap.size,1,none⟩=some (.int .i64 0)
 r2:wr.cell? ⟨w.heap.size,2,none⟩=some (.int .i64 0)
 c0:wr.cell? ⟨w.heap.size+1,0,none⟩=some (.int .i64 y)
 c1:wr.cell? ⟨w.heap.size+1,1,none⟩=some (.int .i64 m)
 c2:wr.cell? ⟨w.heap.size+1,2,none⟩=some (.int .i64 0)
 f0:wr.frozen? ⟨w.heap.size,0,none⟩=false
 f1:wr.frozen? ⟨w.heap.size,1,none⟩=false
 f2:wr.frozen? ⟨w.heap.size,2,none⟩=false
 g0:wr.frozen? ⟨w.heap.size+1,0,none⟩=false
 g1:wr.frozen? ⟨w.heap.size+1,1,none⟩=false
 g2:wr.frozen? ⟨w.heap.size+1,2,none⟩=false
theorem Two.start (w:World):Two w ((w.alloc (Obj.cells #[.int .i64 0,.int .i64 0,.int .i64 0] 163)).alloc (Obj.cells #[.int .i64 1970,.int .i64 1,.int .i64 0] 163)) 1970 1 where
 bel:=(al_ _ _).alloc (by simp) _
 lt:=by simp
 r0:=by simp [go_sem]
 r1:=by simp [go_sem]
 r2:=by simp [go_sem]
 c0:=by simp [go_sem]
 c1:=by simp [go_sem]
 c2:=by simp [go_sem]
 f0:=by simp [go_sem]
 f1:=by simp [go_sem]
 f2:=by simp [go_sem]
 g0:=by simp [go_sem]
 g1:=by simp [go_sem]
 g2:=by simp [go_sem]
theorem Two.below {w w1 w2:World} {y m:Int} (h:Two w w1 y m) (hb:Below w1.heap.size w1 w2):Two w w2 y m where
 bel:=h.bel.trans (hb.mono h.bel.size)
 lt:=by have:=hb.size;have:=h.lt;omega
 r0:=(hb.cell (p:=⟨w.heap.size,0,none⟩) (by have:=h.lt;simp only;omega)).trans h.r0
 r1:=(hb.cell (p:=⟨w.heap.size,1,none⟩) (by have:=h.lt;simp only;omega)).trans h.r1
 r2:=(hb.cell (p:=⟨w.heap.size,2,none⟩) (by have:=h.lt;simp only;omega)).trans h.r2
 c0:=(hb.cell (p:=⟨w.heap.size+1,0,none⟩) h.lt).trans h.c0
 c1:=(hb.cell (p:=⟨w.heap.size+1,1,none⟩) h.lt).trans h.c1
 c2:=(hb.cell (p:=⟨w.heap.size+1,2,none⟩) h.lt).trans h.c2
 f0:=(hb.frozen (p:=⟨w.heap.size,0,none⟩) (by have:=h.lt;simp only;omega)).trans h.f0
 f1:=(hb.frozen (p:=⟨w.heap.size,1,none⟩) (by have:=h.lt;simp only;omega)).trans h.f1
 f2:=(hb.frozen (p:=⟨w.heap.size,2,none⟩) (by have:=h.lt;simp only;omega)).trans h.f2
 g0:=(hb.frozen (p:=⟨w.heap.size+1,0,none⟩) h.lt).trans h.g0
 g1:=(hb.frozen (p:=⟨w.heap.size+1,1,none⟩) h.lt).trans h.g1
 g2:=(hb.frozen (p:=⟨w.heap.size+1,2,none⟩) h.lt).trans h.g2
theorem Two.year {w wr:World} {y m:Int} (h:Two w wr y m) (v:Int):Two w (wr.setCell ⟨w.heap.size+1,0,none⟩ (.int .i64 v)) v m where
 bel:=h.bel.setCell (by simp) _
 lt:=by have:=h.lt;simpa using this
 r0:=by simp [go_sem,h.r0]
 r1:=by simp [go_sem,h.r1]
 r2:=by simp [go_sem,h.r2]
 c0:=by simp [go_sem,h.c0]
 c1:=by simp [go_sem,h.c1]
 c2:=by simp [go_sem,h.c2]
 f0:=by simp [go_sem,h.f0]
 f1:=by simp [go_sem,h.f1]
 f2:=by simp [go_sem,h.f2]
 g0:=by simp [go_sem,h.g0]
 g1:=by simp [go_sem,h.g1]
 g2:=by simp [go_sem,h.g2]
theorem Two.month {w wr:World} {y m:Int} (h:Two w wr y m) (v:Int):Two w (wr.setCell ⟨w.heap.size+1,1,none⟩ (.int .i64 v)) y v where
 bel:=h.bel.setCell (by simp) _
 lt:=by have:=h.lt;simpa using this
 r0:=by simp [go_sem,h.r0]
 r1:=by simp [go_sem,h.r1]
 r2:=by simp [go_sem,h.r2]
 c0:=by simp [go_sem,h.c0]
 c1:=by simp [go_sem,h.c1]
 c2:=by simp [go_sem,h.c2]
 f0:=by simp [go_sem,h.f0]
 f1:=by simp [go_sem,h.f1]
 f2:=by simp [go_sem,h.f2]
 g0:=by simp [go_sem,h.g0]
 g1:=by simp [go_sem,h.g1]
 g2:=by simp [go_sem,h.g2]
def outOf (day:Int) (K J:Nat):Value:=if K≤230 then date (1970+(K:Int)) ((J:Int)+1) (day-ys K-ms (1970+(K:Int)) J+1) else date 0 0 0
theorem spec_dateof_in (day:Int) (K J:Nat) (d0:0≤day) (d1:day≤100000) (h1:ys K≤day) (h2:day<ys (K+1)) (hm1:ms (1970+(K:Int)) J≤day-ys K) (hm2:day-ys K<ms (1970+(K:Int)) (J+1)) (hJ:J<12) (w:World) :
 Calls Tryz.prog 192 #[.int .i64 day] w fun e w'=>e=.returned (outOf day K J)∧Below w.heap.size w w':=by
 have HH:=H_ (fun j hj=>less_year day j K h1 h2 hj d1)
 have hK:K≤300:=by have:=ys_bd K;omega
 have HM:Hid (K≤230→∀j,j≤J→_):=H_ (fun hK j hj=>less_month (1970+(K:Int)) (day-ys K) j J hm1 hm2 hj hJ (by omega) (by omega))
 clear h1 h2 hm1 hm2
 have hT:=Two.start w
 obtain ⟨W,hW⟩:∃W,W=(w.alloc (Obj.cells #[.int .i64 0,.int .i64 0,.int .i64 0] 163)).alloc (Obj.cells #[.int .i64 1970,.int .i64 1,.int .i64 0] 163):=⟨_,rfl⟩
 rw [←hW] at hT
 have HT:=H_ hT
 have HW:=H_ hW
 clear hT hW
 go_enter Tryz.func192,Tryz.ntmps192
 go_wp2_with (first|(go_at_call 217;go_in)|(go_at_call 63;go_in))
 rw [←HW.out]
 go_loopw [0] (fun x wr=>∃j:Nat,j≤K∧x=.int .i64 (day-ys j)∧Hid (Two w wr (1970+(j:Int)) 1)) (fun x _=>(intOf x).toNat)
 case atStart=>exact ⟨0,by omega,by simp [ys],HT⟩
 case round =>
  obtain ⟨j,hj,rfl,HR⟩:=hrel
  obtain ⟨L,X,hLe,hX,l0,l1,x0,x1,f1,f2,f3⟩:=HH.out j hj
  have hc0:=HR.out.c0
  have hg0:=HR.out.g0
  have HI:=H_ (fun w=>spec_yd (1970+(j:Int)) w)
  rw [←hX] at HI
  rw [←hLe]
  have HF:=H_ f3
  have HLe:=H_ hLe
  have j2:(j:Int)≤300:=by omega
  clear hLe hX f3
  by_cases hlt:j<K
  ·have hn:=f1 hlt
   have hn2:X≤L:=by omega
   clear f1 f2
   go_wp2_with (go_at_call 157;refine (HI.out _).mono ?_;rintro e w' ⟨rfl,rfl⟩)
   go_roundw
   case rel=>exact ⟨j+1,by omega,by rw [HF.out],H_ (by have:=HR.out.year (1970+(j:Int)+1);rw [show (1970+((j+1:Nat):Int))=1970+(j:Int)+1 by omega];exact this)⟩
   case measure=>simp [intOf];omega
  ·obtain rfl:j=K:=by omega
   have hn:=f2 rfl
   have hn2:¬X≤L:=by omega
   clear f1 f2
   by_cases hp:j≤230
   ·have q1:(1970:Int)≤1970+(j:Int):=by omega
    have q2:(1970:Int)+(j:Int)≤2200:=by omega
    go_wp2_with (first|(go_at_call 157;refine (HI.out _).mono ?_;rintro e w' ⟨rfl,rfl⟩)|(go_at_call 193;refine (year_any _ _).mono ?_;rintro e w' ⟨rfl,rfl⟩))
    have HMJ:=H_ (HM.out hp)
    rw [←HLe.out] at HMJ
    have HO:Hid (date (1970+(j:Int)) ((J:Int)+1) (L-ms (1970+(j:Int)) J+1)=outOf day j J):=H_ (by rw [HLe.out];exact (if_pos hp).symm)
    clear HM HLe HF HH hn hn2 hc0 hg0
    go_loopw [0] (fun x wr=>∃i:Nat,i≤J∧x=.int .i64 (L-ms (1970+(j:Int)) i)∧Hid (Two w wr (1970+(j:Int)) ((i:Int)+1))) (fun x _=>(intOf x).toNat)
    case atStart=>exact ⟨0,by omega,by simp [ms],HR⟩
    case round =>
     obtain ⟨i,hi,rfl,HR2⟩:=hrel
     obtain ⟨Z,Y,hZe,hY,z0,z1,y0,y1,f1,f2,f3⟩:=HMJ.out i hi
     have hc0:=HR2.out.c0
     have hc1:=HR2.out.c1
     have hg1:=HR2.out.g1
     have HMD:=H_ (fun w=>spec_md (1970+(j:Int)) ((i:Int)+1) w)
     rw [←hY] at HMD
     rw [←hZe]
     have HF:=H_ f3
     have HZe:=H_ hZe
     have i2:(i:Int)<12:=by omega
     clear hZe hY f3
     by_cases hlt2:i<J
     ·have hn:=f1 hlt2
      have hn2:Y≤Z:=by omega
      have i3:(i:Int)+1<12:=by omega
      clear f1 f2
      go_wp2_with fail
      refine (HMD.out _).mono ?_
      rintro e w2 ⟨rfl,hb2⟩
      have HR3:=H_ (HR2.out.below hb2)
      have hc0:=HR3.out.c0
      have hc1:=HR3.out.c1
      have hg1:=HR3.out.g1
      clear hb2
      go_wp2_with fail
      refine (HMD.out _).mono ?_
      rintro e w3 ⟨rfl,hb3⟩
      have HR4:=H_ (HR3.out.below hb3)
      have hc0:=HR4.out.c0
      have hc1:=HR4.out.c1
      have hg1:=HR4.out.g1
      clear hb3
      go_wp2_with fail
      go_roundw
      case rel=>exact ⟨i+1,by omega,by rw [HF.out],H_ (by have:=HR4.out.month ((i:Int)+1+1);rw [show (((i+1:Nat):Int)+1)=(i:Int)+1+1 by omega];exact this)⟩
      case measure=>simp [intOf];omega
     ·obtain rfl:i=J:=by omega
      have hn:=f2 rfl
      have hn2:¬Y≤Z:=by omega
      clear f1 f2
      rw [←HZe.out] at HO
      by_cases hl:i=11
      ·subst hl
       have hc2:=HR2.out.c2
       have hg2:=HR2.out.g2
       have r0:=HR2.out.r0
       have r1:=HR2.out.r1
       have r2:=HR2.out.r2
       have e0:=HR2.out.f0
       have e1:=HR2.out.f1
       have e2:=HR2.out.f2
       go_wp2_with fail
       refine bodyPost_ret (v:=date (1970+(j:Int)) 12 (Z+1)) (by simp [date,results,Tryz.results192,go_sem,r0,r1,r2]) rfl ⟨by rw [←HO.out];rfl,?_⟩
       repeat' first|exact HR2.out.bel|apply Below.setCell
       all_goals simp
      ·have i3:(i:Int)+1<12:=by omega
       go_wp2_with fail
       refine (HMD.out _).mono ?_
       rintro e w2 ⟨rfl,hb2⟩
       have HR3:=H_ (HR2.out.below hb2)
       have hc0:=HR3.out.c0
       have hc1:=HR3.out.c1
       have hc2:=HR3.out.c2
       have hg2:=HR3.out.g2
       have r0:=HR3.out.r0
       have r1:=HR3.out.r1
       have r2:=HR3.out.r2
       have e0:=HR3.out.f0
       have e1:=HR3.out.f1
       have e2:=HR3.out.f2
       clear hb2
       go_wp2_with fail
       refine bodyPost_ret (v:=date (1970+(j:Int)) ((i:Int)+1) (Z+1)) (by simp [date,results,Tryz.results192,go_sem,r0,r1,r2]) rfl ⟨by rw [←HO.out],?_⟩
       repeat' first|exact HR3.out.bel|apply Below.setCell
       all_goals simp
   ·have q1:(1970:Int)≤1970+(j:Int):=by omega
    have q2:¬(1970:Int)+(j:Int)≤2200:=by omega
    have q3:decide ((1970:Int)+(j:Int)≤2200)=false:=decide_eq_false q2
    have r0:=HR.out.r0
    have r1:=HR.out.r1
    have r2:=HR.out.r2
    have e0:=HR.out.f0
    have e1:=HR.out.f1
    have e2:=HR.out.f2
    have HO:Hid (date 0 0 0=outOf day j J):=H_ (if_neg hp).symm
    go_wp2_with (first|(go_at_call 157;refine (HI.out _).mono ?_;rintro e w' ⟨rfl,rfl⟩)|(go_at_call 193;refine (year_any _ _).mono ?_;rintro e w' ⟨rfl,rfl⟩))
    refine bodyPost_ret (v:=date 0 0 0) (by simp [date,results,Tryz.results192,go_sem,r0,r1,r2]) rfl ⟨by rw [HO.out],?_⟩
    repeat' first|exact HR.out.bel|apply Below.setCell
    all_goals exact Nat.le_refl _
end DateR
namespace DateR
open DateM
theorem spec_dateof_none (day:Int) (h:day<0∨100000<day) (w:World) :
 Calls Tryz.prog 192 #[.int .i64 day] w fun e w'=>e=.returned (date 0 0 0)∧Below w.heap.size w w':=by
 have key:(¬0≤day)∨(0≤day∧¬day≤100000):=by omega
 clear h
 rcases key with h1|⟨h1,h2⟩
 all_goals
  go_enter Tryz.func192,Tryz.ntmps192
  go_wp2
  refine bodyPost_ret (v:=date 0 0 0) (by simp [date,results,Tryz.results192,go_sem]) rfl ⟨rfl,?_⟩
  repeat' first|exact Below.refl _ _|apply Below.setCell|apply Below.alloc
  all_goals first|omega|(simp;done)|(simp;omega)
theorem num_of (day:Int) (K J:Nat) (hK:K≤230) (hJ:J<12) (m1:ms (1970+(K:Int)) J≤day-ys K) (m2:day-ys K<ms (1970+(K:Int)) (J+1)) :
 rightB (1970+(K:Int)) ((J:Int)+1) (day-ys K-ms (1970+(K:Int)) J+1)=true∧num (1970+(K:Int)) ((J:Int)+1) (day-ys K-ms (1970+(K:Int)) J+1)=day:=by
 have e:=ms_succ (1970+(K:Int)) J
 refine ⟨(right_iff _ _ _).2 ⟨by omega,by omega,by omega,by omega,by omega,by omega⟩,?_⟩
 unfold num
 rw [show (1970+(K:Int)-1970).toNat=K by omega,show ((J:Int)+1-1).toNat=J by omega]
 omega
def DateOfIs (day y m d:Int):Prop:=(0≤day∧day<ys 231∧rightB y m d=true∧num y m d=day)∨(¬(0≤day∧day<ys 231)∧y=0∧m=0∧d=0)
theorem ys231:ys 231≤100000:=by have:=ys_bd 231;omega
theorem dateof_both (day:Int):∃y m d:Int,DateOfIs day y m d∧(∀w,Laid w→Calls Tryz.prog 227 #[.int .i64 day] w fun e w'=>e=.returned (date y m d)∧Below w.heap.size w w')∧(∀w,Calls Tryz.prog 192 #[.int .i64 day] w fun e w'=>e=.returned (date y m d)∧Below w.heap.size w w'):=by
 by_cases h:day<0∨100000<day
 ·have:=ys231
  exact ⟨0,0,0,.inr ⟨by omega,rfl,rfl,rfl⟩,fun w _=>impl_dateof_none day h w,fun w=>spec_dateof_none day h w⟩
 ·have d0:0≤day:=by omega
  have d1:day≤100000:=by omega
  obtain ⟨K,h1,h2⟩:=year_is day d0
  obtain ⟨J,hJ,m1,m2⟩:=month_is (1970+(K:Int)) (day-ys K) (by omega) (by have:=ys_succ K;omega)
  have hs:=fun w=>spec_dateof_in day K J d0 d1 h1 h2 m1 m2 hJ w
  unfold outOf at hs
  by_cases hK:K≤230
  ·rw [if_pos hK] at hs
   obtain ⟨n1,n2⟩:=num_of day K J hK hJ m1 m2
   have:=ys_mono (show K+1≤231 by omega)
   exact ⟨_,_,_,.inl ⟨d0,by omega,n1,n2⟩,fun w hL=>impl_dateof_in day K J d0 d1 h1 h2 hK m1 m2 hJ w hL,hs⟩
  ·rw [if_neg hK] at hs
   have:=ys_mono (show 231≤K by omega)
   exact ⟨0,0,0,.inr ⟨by omega,rfl,rfl,rfl⟩,fun w _=>impl_dateof_past day K d0 d1 h1 (by omega) w,hs⟩
end DateR
namespace WinR
open DateM DateR
theorem impl_month_in (n y m d:Int) (h1:0≤n) (h2:n≤121000000) (hy1:1970≤y) (hy2:y≤2200) (hm1:1≤m) (hm2:m≤12) (w:World) (hL:Laid w)
 (hd:∀w,Laid w→Calls Tryz.prog 227 #[.int .i64 (n.tdiv 1440)] w fun e w'=>e=.returned (date y m d)∧Below w.heap.size w w') :
 Calls Tryz.prog 226 #[.int .i64 n] w fun e w'=>e=.returned (.int .i64 (12*(y-1970)+(m-1)))∧Below w.heap.size w w':=by
 have hb:0≤n.tdiv 1440∧n.tdiv 1440≤121000000:=by rw [Int.tdiv_eq_ediv_of_nonneg h1];omega
 obtain ⟨b1,b2⟩:=hb
 generalize hq:n.tdiv 1440=q at *
 have HD:=H_ hd
 have HL:=H_ hL
 clear hd hL
 unfold date at *
 go_enter Tryz.func226,Tryz.ntmps226
 go_wp2_with (first|(go_at_call 122;go_in)|(go_at_call 30;go_in)|(go_at_call 227;(try rw [hq]);refine (HD.out _ HL.out).mono ?_;rintro e w1 ⟨rfl,hb1⟩))
 go_ret
 exact ⟨ret_int (by omega),hb1.alloc hb1.size _⟩
theorem spec_month_in (n y m d:Int) (h1:0≤n) (h2:n≤121000000) (hy1:1970≤y) (hy2:y≤2200) (hm1:1≤m) (hm2:m≤12) (w:World)
 (hd:∀w,Calls Tryz.prog 192 #[.int .i64 (n.tdiv 1440)] w fun e w'=>e=.returned (date y m d)∧Below w.heap.size w w') :
 Calls Tryz.prog 155 #[.int .i64 n] w fun e w'=>e=.returned (.int .i64 (12*(y-1970)+(m-1)))∧Below w.heap.size w w':=by
 have hb:0≤n.tdiv 1440∧n.tdiv 1440≤121000000:=by rw [Int.tdiv_eq_ediv_of_nonneg h1];omega
 obtain ⟨b1,b2⟩:=hb
 generalize hq:n.tdiv 1440=q at *
 have HD:=H_ hd
 clear hd
 unfold date at *
 go_enter Tryz.func155,Tryz.ntmps155
 go_wp2_with (first|(go_at_call 192;(try rw [hq]);refine (HD.out _).mono ?_;rintro e w1 ⟨rfl,hb1⟩))
 go_ret
 exact ⟨ret_int (by omega),hb1.alloc hb1.size _⟩
theorem month_two (n:Int) (h1:0≤n) (h2:n≤121000000):∃k:Nat,k≤2771∧fd k≤n / 1440∧n / 1440<fd (k+1)∧(∀w,Laid w→Calls Tryz.prog 226 #[.int .i64 n] w fun e w'=>e=.returned (.int .i64 (k:Int))∧Below w.heap.size w w')∧(∀w,Calls Tryz.prog 155 #[.int .i64 n] w fun e w'=>e=.returned (.int .i64 (k:Int))∧Below w.heap.size w w'):=by
 obtain ⟨y,m,d,hd,hi,hs⟩:=dateof_both (n.tdiv 1440)
 have e:n.tdiv 1440=n / 1440:=Int.tdiv_eq_ediv_of_nonneg h1
 have:=ys_231
 rcases hd with ⟨_,_,hr,hn⟩|⟨hx,_⟩
 ·obtain ⟨k,k1,k2,k3,k4⟩:=num_fd y m d hr
  obtain ⟨y1,y2,m1,m2,_,_⟩:=(right_iff y m d).1 hr
  exact ⟨k,k1,by omega,by omega,fun w hL=>by rw [←k2];exact impl_month_in n y m d h1 h2 y1 y2 m1 m2 w hL hi,fun w=>by rw [←k2];exact spec_month_in n y m d h1 h2 y1 y2 m1 m2 w hs⟩
 ·omega
theorem impl_hour_of (h mo:Int) (w:World) (hL:Laid w) :
 Calls Tryz.prog 223 #[.int .i64 h,.int .i64 mo] w fun e w'=>e=.returned (.bool (hourIn h mo))∧Below w.heap.size w w':=by
 rcases (show (¬0≤h)∨(0≤h∧¬h≤2016666)∨(0≤h∧h≤2016666) by omega) with q|⟨q,q2⟩|⟨q,q2⟩
 ·rw [hour_far (fun x=>q x.1)]
  clear hL
  go_enter Tryz.func223,Tryz.ntmps223
  go_wp2_with (go_at_call 30;go_in)
  go_ret
  exact ⟨rfl,Below.refl _ _⟩
 ·rw [hour_far (fun x=>q2 x.2)]
  clear hL
  go_enter Tryz.func223,Tryz.ntmps223
  go_wp2_with (go_at_call 30;go_in)
  go_ret
  exact ⟨rfl,Below.refl _ _⟩
 ·obtain ⟨k,k1,f1,f2,hi,hs⟩:=month_two (60*h) (by omega) (by omega)
  rw [hour_month q q2 k rfl f1 f2]
  have HI:=H_ (hi w hL)
  clear hL hi hs f1 f2
  have hm:h*60=60*h:=by omega
  generalize hq:60*h=n at *
  by_cases he:(k:Int)=mo
  ·subst he
   rw [decide_eq_true rfl]
   go_enter Tryz.func223,Tryz.ntmps223
   go_wp2_with (first|(go_at_call 30;go_in)|(go_at_call 226;(try rw [hm]);refine HI.out.mono ?_;rintro e w1 ⟨rfl,hb1⟩))
   go_ret
   exact ⟨rfl,hb1⟩
  ·rw [decide_eq_false he]
   have he2:((k:Int)==mo)=false:=by simpa using he
   go_enter Tryz.func223,Tryz.ntmps223
   go_wp2_with (first|(go_at_call 30;go_in)|(go_at_call 226;(try rw [hm]);refine HI.out.mono ?_;rintro e w1 ⟨rfl,hb1⟩))
   go_ret
   exact ⟨ret_bool (by first|rfl|simpa using he),hb1⟩
end WinR
namespace WinR
open RowG LtR
open CatR (Blk Blk.new)
open DateR (Laid)
theorem withinI (n low high:Int) (w:World) :
 Calls Tryz.prog 167 #[.int .i64 n,.int .i64 low,.int .i64 high] w fun e w'=>e=.returned (.bool (decide (low≤n∧n≤high)))∧w'=w:=by
 rcases (show (¬low≤n)∨(low≤n∧¬n≤high)∨(low≤n∧n≤high) by omega) with h|⟨h1,h2⟩|⟨h1,h2⟩
 all_goals
  go_enter Tryz.func167,Tryz.ntmps167
  go_wp2
  go_ret
  exact ⟨ret_bool (by first|(simp [*];done)|(simp;omega)),rfl⟩
theorem three (b1 b2 b3:Bool):(b1=false)∨(b1=true∧b2=false)∨(b1=true∧b2=true∧b3=false)∨(b1=true∧b2=true∧b3=true):=by
 cases b1<;>cases b2<;>cases b3<;>simp
theorem four (b1 b2 b3 b4:Bool):(b1=false)∨(b1=true∧b2=false)∨(b1=true∧b2=true∧b3=false)∨(b1=true∧b2=true∧b3=true∧b4=false)∨(b1=true∧b2=true∧b3=true∧b4=true):=by
 cases b1<;>cases b2<;>cases b3<;>cases b4<;>simp
theorem isMonth_any (n:Int) (w:World):Calls Tryz.prog 73 #[.int .i64 n] w fun e w'=>e=.returned (.bool (decide (0≤n∧n≤2760)))∧w'=w:=by
 have H:=EvtR.within_any n 0 2760
 generalize decide (0≤n∧n≤2760)=b at *
 go_enter Tryz.func73,Tryz.ntmps73
 go_wp2_with (go_at_call 30;refine (H _).mono ?_;rintro e w' ⟨rfl,rfl⟩)
 go_ret
 exact ⟨rfl,rfl⟩
theorem impl_named (a m:ByteArray) (mo:Int) (w:World) (ha:a.size≤1048576) (hm:m.size≤1048576) :
 Calls Tryz.prog 205 #[.agg #[.string a,.string m,.int .i64 mo]] w fun e w'=>e=.returned (.bool (namedB a m mo))∧Below w.heap.size w w':=by
 unfold namedB
 have H1:=H_ (fun w=>NameR.impl_any a w ha)
 have H2:=H_ (fun w=>NameR.impl_any m w hm)
 have H3:=H_ (fun w=>isMonth_any mo w)
 have HB:Hid (Below w.heap.size w (w.alloc (.cells #[.string a,.string m,.int .i64 mo] 185))):=H_ (al_ _ _)
 have HX:Hid (∀W,W=w.alloc (.cells #[.string a,.string m,.int .i64 mo] 185)→W.cell? ⟨w.heap.size,0,none⟩=some (.string a)∧W.cell? ⟨w.heap.size,1,none⟩=some (.string m)∧W.cell? ⟨w.heap.size,2,none⟩=some (.int .i64 mo)):=H_ (fun W h=>by subst h;simp [go_sem])
 generalize NameR.nameB a=b1 at *
 generalize NameR.nameB m=b2 at *
 generalize decide (0≤mo∧mo≤2760)=b3 at *
 rcases three b1 b2 b3 with rfl|⟨rfl,rfl⟩|⟨rfl,rfl,rfl⟩|⟨rfl,rfl,rfl⟩
 ·go_enter Tryz.func205,Tryz.ntmps205
  go_wp2_with fail
  refine (H1.out _).mono ?_
  rintro e w1 ⟨rfl,rfl⟩
  go_wp2_with fail
  go_ret
  exact ⟨rfl,HB.out⟩
 ·go_enter Tryz.func205,Tryz.ntmps205
  go_wp2_with fail
  refine (H1.out _).mono ?_
  rintro e w1 ⟨rfl,rfl⟩
  go_wp2_with fail
  refine (H2.out _).mono ?_
  rintro e w1 ⟨rfl,rfl⟩
  go_wp2_with fail
  go_ret
  exact ⟨rfl,HB.out⟩
 ·go_enter Tryz.func205,Tryz.ntmps205
  go_wp2_with fail
  refine (H1.out _).mono ?_
  rintro e w1 ⟨rfl,rfl⟩
  go_wp2_with fail
  refine (H2.out _).mono ?_
  rintro e w1 ⟨rfl,rfl⟩
  go_wp2_with fail
  refine (H3.out _).mono ?_
  rintro e w1 ⟨rfl,rfl⟩
  go_wp2_with fail
  go_ret
  exact ⟨rfl,HB.out⟩
 ·go_enter Tryz.func205,Tryz.ntmps205
  go_wp2_with fail
  refine (H1.out _).mono ?_
  rintro e w1 ⟨rfl,rfl⟩
  go_wp2_with fail
  refine (H2.out _).mono ?_
  rintro e w1 ⟨rfl,rfl⟩
  go_wp2_with fail
  refine (H3.out _).mono ?_
  rintro e w1 ⟨rfl,rfl⟩
  go_wp2_with fail
  go_ret
  exact ⟨rfl,HB.out⟩
theorem impl_counted (ev su mx:Int) (w:World) :
 Calls Tryz.prog 206 #[.agg #[.int .i64 ev,.int .i64 su,.int .i64 mx]] w fun e w'=>e=.returned (.bool (countedB ev su mx))∧Below w.heap.size w w':=by
 unfold countedB
 have H1:=H_ (fun w=>EvtR.within_any ev 1 1000 w)
 have H2:=H_ (fun w=>EvtR.within_any su 0 1000000000000 w)
 have H3:=H_ (fun w=>EvtR.within_any mx 0 su w)
 have HB:Hid (Below w.heap.size w (w.alloc (.cells #[.int .i64 ev,.int .i64 su,.int .i64 mx] 187))):=H_ (al_ _ _)
 generalize decide (1≤ev∧ev≤1000)=b1 at *
 generalize decide (0≤su∧su≤1000000000000)=b2 at *
 generalize decide (0≤mx∧mx≤su)=b3 at *
 rcases three b1 b2 b3 with rfl|⟨rfl,rfl⟩|⟨rfl,rfl,rfl⟩|⟨rfl,rfl,rfl⟩
 ·go_enter Tryz.func206,Tryz.ntmps206
  go_wp2_with fail
  refine (H1.out _).mono ?_
  rintro e w1 ⟨rfl,rfl⟩
  go_wp2_with fail
  go_ret
  exact ⟨rfl,HB.out⟩
 ·go_enter Tryz.func206,Tryz.ntmps206
  go_wp2_with fail
  refine (H1.out _).mono ?_
  rintro e w1 ⟨rfl,rfl⟩
  go_wp2_with fail
  refine (H2.out _).mono ?_
  rintro e w1 ⟨rfl,rfl⟩
  go_wp2_with fail
  go_ret
  exact ⟨rfl,HB.out⟩
 ·go_enter Tryz.func206,Tryz.ntmps206
  go_wp2_with fail
  refine (H1.out _).mono ?_
  rintro e w1 ⟨rfl,rfl⟩
  go_wp2_with fail
  refine (H2.out _).mono ?_
  rintro e w1 ⟨rfl,rfl⟩
  go_wp2_with fail
  refine (H3.out _).mono ?_
  rintro e w1 ⟨rfl,rfl⟩
  go_wp2_with fail
  go_ret
  exact ⟨rfl,HB.out⟩
 ·go_enter Tryz.func206,Tryz.ntmps206
  go_wp2_with fail
  refine (H1.out _).mono ?_
  rintro e w1 ⟨rfl,rfl⟩
  go_wp2_with fail
  refine (H2.out _).mono ?_
  rintro e w1 ⟨rfl,rfl⟩
  go_wp2_with fail
  refine (H3.out _).mono ?_
  rintro e w1 ⟨rfl,rfl⟩
  go_wp2_with fail
  go_ret
  exact ⟨rfl,HB.out⟩
end WinR
namespace WinR
open RowG LtR
open CatR (Blk Blk.new)
open DateR (Laid)
theorem impl_tagged (a m:ByteArray) (mo ev su mx:Int) (ts:List ByteArray) (ta:Option Addr) (tc:Nat) (hv:Value) (w:World) (hlen:ts.length≤1048576) (hS:∀t∈ts,t.size≤1048576) (hI:Tgs ta ts w) :
 Calls Tryz.prog 207 #[.agg #[.string a,.string m,.int .i64 mo,.int .i64 ev,.int .i64 su,.int .i64 mx,.slice ta ts.length tc,.func (.func 212) #[] #[],.func (.func 213) #[] #[],hv,.func (.func 214) #[] #[],.func (.func 215) #[] #[]]] w fun e w'=>e=.returned (.bool (tagsB ts))∧Below w.heap.size w w':=by
 have HI:=H_ hI
 have HS:=H_ hS
 have HLO:=H_ (tags_long (ts:=ts))
 have HRI:=H_ (tags_rise (ts:=ts))
 have HEN:=H_ (tags_end (ts:=ts))
 have HC:=H_ (fun W (hW:Below w.heap.size w W)=>tags_rises ta tc ts W hlen (hI.below hW))
 generalize tagsB ts=R at *
 generalize riseB lt tz ts=r at *
 obtain ⟨len,hl⟩:∃len,len=ts.length:=⟨_,rfl⟩
 rw [←hl] at hlen HLO HEN HC ⊢
 have HL:=H_ hl
 clear hI hl hS
 have HB0:Hid (Below w.heap.size w (w.alloc (.cells #[.string a,.string m,.int .i64 mo,.int .i64 ev,.int .i64 su,.int .i64 mx,.slice ta len tc,.func (.func 212) #[] #[],.func (.func 213) #[] #[],hv,.func (.func 214) #[] #[],.func (.func 215) #[] #[]] 196))):=H_ (al_ _ _)
 have HX0:=H_ (Blk.new w [.string a,.string m,.int .i64 mo,.int .i64 ev,.int .i64 su,.int .i64 mx,.slice ta len tc,.func (.func 212) #[] #[],.func (.func 213) #[] #[],hv,.func (.func 214) #[] #[],.func (.func 215) #[] #[]] 196)
 by_cases h12:12<len
 ·have h12':(12:Int)<(len:Int):=by omega
  have HF:=H_ (HLO.out h12)
  clear HX0 HC HRI HEN HLO
  go_enter Tryz.func207,Tryz.ntmps207
  go_wp2_with fail
  go_ret
  exact ⟨ret_bool HF.out.symm,HB0.out⟩
 ·have h12':¬(12:Int)<(len:Int):=by omega
  cases r
  ·have HF:=H_ (HRI.out rfl)
   clear HX0 HRI HEN HLO
   go_enter Tryz.func207,Tryz.ntmps207
   go_wp2_with fail
   refine (HC.out _ HB0.out).mono ?_
   rintro e w1 ⟨rfl,hb1⟩
   have HB1:=HT_ HB0 hb1
   clear hb1
   go_wp2_with fail
   go_ret
   exact ⟨ret_bool HF.out.symm,HB1.out⟩
  ·have HE:=H_ (HEN.out (by omega) rfl)
   clear HRI HEN HLO
   go_enter Tryz.func207,Tryz.ntmps207
   go_wp2_with fail
   refine (HC.out _ HB0.out).mono ?_
   rintro e w1 ⟨rfl,hb1⟩
   have HB1:=HT_ HB0 hb1
   have HX1:=H_ (HX0.out.below hb1)
   clear hb1 HB0 HX0
   obtain ⟨xl,xc⟩:=HX1.out
   have x6:=q_ xc 6
   clear xc
   go_wp2_with fail
   go_loopw [20] (fun z wr=>∃k:Nat,k≤len∧z=.int .i64 k∧Hid ((ts.take k).all tagOk=true)∧Hid (Below w.heap.size w wr)) (fun z _=>len-(intOf z).toNat)
   case atStart=>exact ⟨0,by omega,rfl,H_ (by simp),HB1⟩
   case round =>
    obtain ⟨k,hk,rfl,HK,HB⟩:=hrel
    by_cases hlt:k<len
    ·have hlt2:(k:Int)<(len:Int):=by omega
     have hkl:k<ts.length:=by have:=HL.out;omega
     obtain ⟨b,off,rfl,hbl,c0⟩:=(HI.out.below HB.out).at k hkl
     have hsz:=HS.out _ (getD_mem (z:=tz) ts k hkl)
     have HT:=H_ (fun w=>EvtR.impl_tag (ts.getD k tz) w hsz)
     have HNO:=H_ (fun h=>all_no (z:=tz) (xs:=ts) tagOk hkl h)
     have HGO:Hid (tagOk (ts.getD k tz)=true→(ts.take (k+1)).all tagOk=true):=H_ (fun h=>by rw [all_take (z:=tz) _ k hkl,HK.out,h];rfl)
     have HTO:Hid (tagOk (ts.getD k tz)=(decide (1≤(ts.getD k tz).size)&&EvtR.tagB (ts.getD k tz))):=rfl
     generalize tagOk (ts.getD k tz)=q at *
     generalize ts.getD k tz=X at *
     by_cases hi:X.size=0
     ·have he:=EvtR.empty_of X hi
      have HF:Hid (R=false):=H_ (by rw [HE.out];exact HNO.out (by rw [HTO.out,decide_eq_false (by omega),Bool.false_and]))
      go_wp2_with fail
      go_ret
      exact ⟨ret_bool HF.out.symm,HB.out⟩
     ·obtain ⟨he,he2⟩:=EvtR.full_of X hi
      have HTO2:Hid (q=EvtR.tagB X):=H_ (by rw [HTO.out,decide_eq_true (by omega),Bool.true_and])
      generalize EvtR.tagB X=g at *
      cases g
      ·have HF:Hid (R=false):=H_ (by rw [HE.out];exact HNO.out HTO2.out)
       go_wp2_with fail
       refine (HT.out _).mono ?_
       rintro e w2 ⟨rfl,hb2⟩
       have HB2:=HT_ HB hb2
       clear hb2 c0
       go_wp2_with fail
       go_ret
       exact ⟨ret_bool HF.out.symm,HB2.out⟩
      ·have HG:=H_ (HGO.out HTO2.out)
       go_wp2_with fail
       refine (HT.out _).mono ?_
       rintro e w2 ⟨rfl,hb2⟩
       have HB2:=HT_ HB hb2
       clear hb2 c0
       go_wp2_with fail
       go_roundw
       case rel=>exact ⟨k+1,by omega,by go_num,HG,HB2⟩
       case measure=>simp [intOf];omega
    ·have hlt2:¬(k:Int)<(len:Int):=by omega
     obtain rfl:k=len:=by omega
     have HF:Hid (R=true):=H_ (by
      rw [HE.out]
      have h:=HK.out
      rwa [List.take_of_length_le (by have:=HL.out;omega)] at h)
     go_wp2_with fail
     go_ret
     exact ⟨ret_bool HF.out.symm,HB.out⟩
end WinR
namespace WinR
open RowG LtR
open CatR (Blk Blk.new)
open DateR (Laid)
theorem timed_few {hs:List H} {mo su:Int} (h:¬(1≤hs.length∧hs.length≤12)):timedB hs mo su=false:=by unfold timedB;rw [decide_eq_false h,Bool.false_and]
theorem timed_in {hs:List H} {mo su:Int} (h:1≤hs.length∧hs.length≤12):timedB hs mo su=hoursB hs mo su:=by unfold timedB;rw [decide_eq_true h,Bool.true_and]
theorem impl_timed (a m:ByteArray) (mo ev su mx:Int) (hs:List H) (tv:Value) (ha:Option Addr) (hc:Nat) (w:World) (hlen:hs.length≤1048576) (hsu:0≤su∧su≤1000000000000) (hL:Laid w) (hI:Hrs ha hs w) :
 Calls Tryz.prog 208 #[.agg #[.string a,.string m,.int .i64 mo,.int .i64 ev,.int .i64 su,.int .i64 mx,tv,.func (.func 212) #[] #[],.func (.func 213) #[] #[],.slice ha hs.length hc,.func (.func 214) #[] #[],.func (.func 215) #[] #[]]] w fun e w'=>e=.returned (.bool (timedB hs mo su))∧Below w.heap.size w w':=by
 have HI:=H_ hI
 have HLA:=H_ hL
 have HFEW:=H_ (timed_few (hs:=hs) (mo:=mo) (su:=su))
 have HIN:=H_ (timed_in (hs:=hs) (mo:=mo) (su:=su))
 have HRI:=H_ (hours_rise (hs:=hs) (mo:=mo) (su:=su))
 have HEN:=H_ (hours_end (hs:=hs) (mo:=mo) (su:=su))
 have HNO:=H_ (fun k=>hours_no (hs:=hs) (mo:=mo) (su:=su) (k:=k))
 have HC:=H_ (fun W (hW:Below w.heap.size w W)=>hours_rises ha hc hs W hlen (hI.below hW))
 have HWI:=H_ (fun w=>withinI hs.length 1 12 w)
 generalize timedB hs mo su=R at *
 generalize hoursB hs mo su=Q at *
 generalize riseB hlt H.zero hs=r at *
 obtain ⟨len,hl⟩:∃len,len=hs.length:=⟨_,rfl⟩
 rw [←hl] at hlen HFEW HIN HC HWI ⊢
 have HL:=H_ hl
 obtain ⟨hs0,hs1⟩:=hsu
 clear hI hl hL
 have HB0:Hid (Below w.heap.size w (w.alloc (.cells #[.string a,.string m,.int .i64 mo,.int .i64 ev,.int .i64 su,.int .i64 mx,tv,.func (.func 212) #[] #[],.func (.func 213) #[] #[],.slice ha len hc,.func (.func 214) #[] #[],.func (.func 215) #[] #[]] 196))):=H_ (al_ _ _)
 have HX0:=H_ (Blk.new w [.string a,.string m,.int .i64 mo,.int .i64 ev,.int .i64 su,.int .i64 mx,tv,.func (.func 212) #[] #[],.func (.func 213) #[] #[],.slice ha len hc,.func (.func 214) #[] #[],.func (.func 215) #[] #[]] 196)
 by_cases h12:1≤len∧len≤12
 ·rw [decide_eq_true (show (1:Int)≤(len:Int)∧(len:Int)≤12 by omega)] at HWI
  have HRQ:=H_ (HIN.out h12)
  cases r
  ·have HF:Hid (R=false):=H_ (by rw [HRQ.out];exact HRI.out rfl)
   clear HX0 HRI HEN HNO HFEW HIN
   go_enter Tryz.func208,Tryz.ntmps208
   go_wp2_with fail
   refine (HWI.out _).mono ?_
   rintro e w1 ⟨rfl,rfl⟩
   go_wp2_with fail
   refine (HC.out _ HB0.out).mono ?_
   rintro e w2 ⟨rfl,hb1⟩
   have HB1:=HT_ HB0 hb1
   clear hb1
   go_wp2_with fail
   go_ret
   exact ⟨ret_bool HF.out.symm,HB1.out⟩
  ·have HE:=H_ (HEN.out rfl)
   clear HRI HEN HFEW HIN
   go_enter Tryz.func208,Tryz.ntmps208
   go_wp2_with fail
   refine (HWI.out _).mono ?_
   rintro e w1 ⟨rfl,rfl⟩
   go_wp2_with fail
   refine (HC.out _ HB0.out).mono ?_
   rintro e w2 ⟨rfl,hb1⟩
   have HB1:=HT_ HB0 hb1
   have HX1:=H_ (HX0.out.below hb1)
   clear hb1 HB0 HX0
   obtain ⟨xl,xc⟩:=HX1.out
   have x2:=q_ xc 2
   have x4:=q_ xc 4
   have x9:=q_ xc 9
   clear xc
   go_wp2_with fail
   go_loopw [3,25] (fun y z wr=>∃k:Nat,k≤len∧y=.int .i64 (su-hsum (hs.take k))∧z=.int .i64 k∧Hid (HUp hs mo su k)∧Hid (Below w.heap.size w wr)∧Hid (w.heap.size<wr.heap.size∧wr.cell? ⟨w.heap.size,2,none⟩=some (.int .i64 mo))) (fun y z _=>len-(intOf z).toNat)
   case atStart=>exact ⟨0,by omega,by simp [hsum],rfl,H_ (HUp.zero _ _ _),HB1,H_ ⟨xl,x2⟩⟩
   case round =>
    obtain ⟨k,hk,rfl,rfl,HK,HB,HX⟩:=hrel
    clear x2 x4 x9 xl
    obtain ⟨xl,x2⟩:=HX.out
    by_cases hlt1:k<len
    ·have hlt2:(k:Int)<(len:Int):=by omega
     have hkl:k<hs.length:=by have:=HL.out;omega
     obtain ⟨b,off,rfl,hbl,c0,c1⟩:=(HI.out.below HB.out).at k hkl
     have HN:=H_ (HNO.out k hkl)
     have HM:=H_ (fun h1 h2 h3=>HK.out.more h1 h2 h3)
     have HST:=H_ (hsum_take hs k hkl)
     have HSN:=H_ (HK.out.nn (by omega))
     have HHO:=H_ (fun W hW=>impl_hour_of (hs.getD k H.zero).h mo W hW)
     have HWS:=H_ (fun w=>EvtR.within_any (hs.getD k H.zero).s 0 (su-hsum (hs.take k)) w)
     have hq0:0≤su-hsum (hs.take k)∨su-hsum (hs.take k)<0:=by omega
     have hq1:su-hsum (hs.take k)≤1000000000000:=by have:=HSN.out;omega
     generalize hourIn (hs.getD k H.zero).h mo=g at *
     generalize hs.getD k H.zero=X at *
     obtain ⟨xh,xs⟩:=X
     dsimp only at c0 c1 HHO HWS HM HN HST
     generalize hT:hsum (hs.take k)=T at *
     have HLA2:=H_ ((HLA.out.below HB.out).below (al_ wr (Obj.cells #[.int .i64 xh,.int .i64 xs] 207)))
     have HBX:=H_ (HB.out.alloc HB.out.size (Obj.cells #[.int .i64 xh,.int .i64 xs] 207))
     have HZ:=H_ (Blk.new wr [.int .i64 xh,.int .i64 xs] 207)
     cases g
     ·have HF:Hid (R=false):=H_ (by rw [HRQ.out];exact HN.out (fun h=>by cases h.1))
      go_wp2_with fail
      refine (HHO.out _ HLA2.out).mono ?_
      rintro e w3 ⟨rfl,hb3⟩
      have HB3:=HT_ HBX hb3
      clear hb3
      go_wp2_with fail
      go_ret
      exact ⟨ret_bool HF.out.symm,HB3.out⟩
     ·go_wp2_with fail
      refine (HHO.out _ HLA2.out).mono ?_
      rintro e w3 ⟨rfl,hb3⟩
      have HB3:=HT_ HBX hb3
      have HZ3:=H_ (HZ.out.below hb3)
      have HX3:Hid (w.heap.size<w3.heap.size∧w3.cell? ⟨w.heap.size,2,none⟩=some (.int .i64 mo)):=H_ (by
       have hc:=hb3.cell (p:=⟨w.heap.size,2,none⟩) (by simp;omega)
       have:=hb3.size
       simp at this
       exact ⟨by omega,(hc.trans (((Below.refl wr.heap.size wr).alloc (Nat.le_refl _) _).cell (p:=⟨w.heap.size,2,none⟩) xl)).trans x2⟩)
      clear hb3 HZ HBX
      obtain ⟨zl,zc⟩:=HZ3.out
      have z1:=q_ zc 1
      clear zc c0 c1 x2
      by_cases hin:0≤xs∧xs≤su-T
      ·rw [decide_eq_true hin] at HWS
       have HM2:=H_ (HM.out (by first|rfl|trivial) hin.1 hin.2)
       obtain ⟨hin1,hin2⟩:=hin
       go_wp2_with fail
       refine (HWS.out _).mono ?_
       rintro e w4 ⟨rfl,rfl⟩
       go_wp2_with fail
       go_roundw
       case rel=>exact ⟨k+1,by omega,by rw [HST.out];congr 1;omega,by go_num,HM2,HB3,HX3⟩
       case measure=>simp [intOf];omega
      ·rw [decide_eq_false hin] at HWS
       have HF:Hid (R=false):=H_ (by rw [HRQ.out];exact HN.out (fun h=>hin h.2))
       go_wp2_with fail
       refine (HWS.out _).mono ?_
       rintro e w4 ⟨rfl,rfl⟩
       go_wp2_with fail
       go_ret
       exact ⟨ret_bool HF.out.symm,HB3.out⟩
    ·have hlt2:¬(k:Int)<(len:Int):=by omega
     obtain rfl:k=len:=by omega
     have HF:Hid (R=decide (su-hsum (hs.take k)=0)):=H_ (by
      rw [HRQ.out,HE.out (by rw [←HL.out];exact HK.out),List.take_of_length_le (by have:=HL.out;omega)])
     generalize hsum (hs.take k)=T at *
     by_cases hz:su-T=0
     ·rw [decide_eq_true hz] at HF
      go_wp2_with fail
      go_ret
      exact ⟨ret_bool (by rw [HF.out];try simp [hz]),HB.out⟩
     ·rw [decide_eq_false hz] at HF
      go_wp2_with fail
      go_ret
      exact ⟨ret_bool (by rw [HF.out];try simp [hz]),HB.out⟩
 ·rw [decide_eq_false (show ¬((1:Int)≤(len:Int)∧(len:Int)≤12) by omega)] at HWI
  have HF:=H_ (HFEW.out h12)
  clear HX0 HC HRI HEN HNO HFEW HIN
  go_enter Tryz.func208,Tryz.ntmps208
  go_wp2_with fail
  refine (HWI.out _).mono ?_
  rintro e w1 ⟨rfl,rfl⟩
  go_wp2_with fail
  go_ret
  exact ⟨ret_bool HF.out.symm,HB0.out⟩
end WinR
end Go.Proofs.YtnceeaccbcfopaaGreatDoor
