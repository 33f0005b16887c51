/-
  A day's date, the model's side. No condition.
-/
import Derived.Test.YtnceeaccbcfopaaGreatDoorT71
namespace Go.Proofs.YtnceeaccbcfopaaGreatDoor
open Go.ChangeShapes Go.WideShapes Go.ChangeAt Go.RowKit
set_option linter.unusedVariables false
namespace DateR
open DateM
structure Two (w wr:World) (y m:Int):Prop where
 bel:Below w.heap.size w wr
 lt:w.heap.size+1<wr.heap.size
 r0:wr.cell? ⟨w.heap.size,0,none⟩=some (.int .i64 0)
 r1:wr.cell? ⟨w.heap.size,1,none⟩=some (.int .i64 0)
 r2:wr.cell? ⟨w.heap.size,2,none⟩=some (.int .i64 0)
 c0:wr.cell? ⟨w.heap.size+1,0,none⟩=some (.int .i64 y)
 c1:wr.cell? ⟨w.heap.size+1,1,none⟩=some (.int .i64 m)
 c2:wr.cell? ⟨w.heap.size+1,2,none⟩=some (.int .i64 0)
 f0:wr.frozen? ⟨w.heap.size,0,none⟩=false
 f1:wr.frozen? ⟨w.heap.size,1,none⟩=false
 f2:wr.frozen? ⟨w.heap.size,2,none⟩=false
 g0:wr.frozen? ⟨w.heap.size+1,0,none⟩=false
 g1:wr.frozen? ⟨w.heap.size+1,1,none⟩=false
 g2:wr.frozen? ⟨w.heap.size+1,2,none⟩=false
theorem Two.start (w:World):Two w ((w.alloc (Obj.cells #[.int .i64 0,.int .i64 0,.int .i64 0] 163)).alloc (Obj.cells #[.int .i64 1970,.int .i64 1,.int .i64 0] 163)) 1970 1 where
 bel:=((Below.refl _ _).alloc (Nat.le_refl _) _).alloc (by simp) _
 lt:=by simp
 r0:=by simp [go_sem]
 r1:=by simp [go_sem]
 r2:=by simp [go_sem]
 c0:=by simp [go_sem]
 c1:=by simp [go_sem]
 c2:=by simp [go_sem]
 f0:=by simp [go_sem]
 f1:=by simp [go_sem]
 f2:=by simp [go_sem]
 g0:=by simp [go_sem]
 g1:=by simp [go_sem]
 g2:=by simp [go_sem]
theorem Two.below {w w1 w2:World} {y m:Int} (h:Two w w1 y m) (hb:Below w1.heap.size w1 w2):Two w w2 y m where
 bel:=h.bel.trans (hb.mono h.bel.size)
 lt:=by have:=hb.size;have:=h.lt;omega
 r0:=(hb.cell (p:=⟨w.heap.size,0,none⟩) (by have:=h.lt;simp only;omega)).trans h.r0
 r1:=(hb.cell (p:=⟨w.heap.size,1,none⟩) (by have:=h.lt;simp only;omega)).trans h.r1
 r2:=(hb.cell (p:=⟨w.heap.size,2,none⟩) (by have:=h.lt;simp only;omega)).trans h.r2
 c0:=(hb.cell (p:=⟨w.heap.size+1,0,none⟩) h.lt).trans h.c0
 c1:=(hb.cell (p:=⟨w.heap.size+1,1,none⟩) h.lt).trans h.c1
 c2:=(hb.cell (p:=⟨w.heap.size+1,2,none⟩) h.lt).trans h.c2
 f0:=(hb.frozen (p:=⟨w.heap.size,0,none⟩) (by have:=h.lt;simp only;omega)).trans h.f0
 f1:=(hb.frozen (p:=⟨w.heap.size,1,none⟩) (by have:=h.lt;simp only;omega)).trans h.f1
 f2:=(hb.frozen (p:=⟨w.heap.size,2,none⟩) (by have:=h.lt;simp only;omega)).trans h.f2
 g0:=(hb.frozen (p:=⟨w.heap.size+1,0,none⟩) h.lt).trans h.g0
 g1:=(hb.frozen (p:=⟨w.heap.size+1,1,none⟩) h.lt).trans h.g1
 g2:=(hb.frozen (p:=⟨w.heap.size+1,2,none⟩) h.lt).trans h.g2
theorem Two.year {w wr:World} {y m:Int} (h:Two w wr y m) (v:Int):Two w (wr.setCell ⟨w.heap.size+1,0,none⟩ (.int .i64 v)) v m where
 bel:=h.bel.setCell (by simp) _
 lt:=by have:=h.lt;simpa using this
 r0:=by simp [go_sem,h.r0]
 r1:=by simp [go_sem,h.r1]
 r2:=by simp [go_sem,h.r2]
 c0:=by simp [go_sem,h.c0]
 c1:=by simp [go_sem,h.c1]
 c2:=by simp [go_sem,h.c2]
 f0:=by simp [go_sem,h.f0]
 f1:=by simp [go_sem,h.f1]
 f2:=by simp [go_sem,h.f2]
 g0:=by simp [go_sem,h.g0]
 g1:=by simp [go_sem,h.g1]
 g2:=by simp [go_sem,h.g2]
theorem Two.month {w wr:World} {y m:Int} (h:Two w wr y m) (v:Int):Two w (wr.setCell ⟨w.heap.size+1,1,none⟩ (.int .i64 v)) y v where
 bel:=h.bel.setCell (by simp) _
 lt:=by have:=h.lt;simpa using this
 r0:=by simp [go_sem,h.r0]
 r1:=by simp [go_sem,h.r1]
 r2:=by simp [go_sem,h.r2]
 c0:=by simp [go_sem,h.c0]
 c1:=by simp [go_sem,h.c1]
 c2:=by simp [go_sem,h.c2]
 f0:=by simp [go_sem,h.f0]
 f1:=by simp [go_sem,h.f1]
 f2:=by simp [go_sem,h.f2]
 g0:=by simp [go_sem,h.g0]
 g1:=by simp [go_sem,h.g1]
 g2:=by simp [go_sem,h.g2]
def outOf (day:Int) (K J:Nat):Value:=if K≤230 then date (1970+(K:Int)) ((J:Int)+1) (day-ys K-ms (1970+(K:Int)) J+1) else date 0 0 0
set_option maxRecDepth 100000 in
set_option maxHeartbeats 4000000 in
theorem spec_dateof_in (day:Int) (K J:Nat) (d0:0≤day) (d1:day≤100000) (h1:ys K≤day) (h2:day<ys (K+1)) (hm1:ms (1970+(K:Int)) J≤day-ys K) (hm2:day-ys K<ms (1970+(K:Int)) (J+1)) (hJ:J<12) (w:World) :
 Calls Tryz.prog 192 #[.int .i64 day] w fun e w'=>e=.returned (outOf day K J)∧Below w.heap.size w w':=by
 have HH:=H_ (fun j hj=>less_year day j K h1 h2 hj d1)
 have hK:K≤300:=by have:=ys_bd K;omega
 have HM:Hid (K≤230→∀j,j≤J→_):=H_ (fun hK j hj=>less_month (1970+(K:Int)) (day-ys K) j J hm1 hm2 hj hJ (by omega) (by omega))
 clear h1 h2 hm1 hm2
 have hT:=Two.start w
 obtain ⟨W,hW⟩:∃W,W=(w.alloc (Obj.cells #[.int .i64 0,.int .i64 0,.int .i64 0] 163)).alloc (Obj.cells #[.int .i64 1970,.int .i64 1,.int .i64 0] 163):=⟨_,rfl⟩
 rw [←hW] at hT
 have HT:=H_ hT
 have HW:=H_ hW
 clear hT hW
 go_enter Tryz.func192,Tryz.ntmps192
 go_wp2_with (first|(go_at_call 217;go_in)|(go_at_call 63;go_in))
 rw [←HW.out]
 go_loopw [0] (fun x wr=>∃j:Nat,j≤K∧x=.int .i64 (day-ys j)∧Hid (Two w wr (1970+(j:Int)) 1)) (fun x _=>(intOf x).toNat)
 case atStart=>exact ⟨0,by omega,by simp [ys],HT⟩
 case round =>
  obtain ⟨j,hj,rfl,HR⟩:=hrel
  obtain ⟨L,X,hLe,hX,l0,l1,x0,x1,f1,f2,f3⟩:=HH.out j hj
  have hc0:=HR.out.c0
  have hg0:=HR.out.g0
  have HI:=H_ (fun w=>spec_yd (1970+(j:Int)) w)
  rw [←hX] at HI
  rw [←hLe]
  have HF:=H_ f3
  have HLe:=H_ hLe
  have j2:(j:Int)≤300:=by omega
  clear hLe hX f3
  by_cases hlt:j<K
  ·have hn:=f1 hlt
   have hn2:X≤L:=by omega
   clear f1 f2
   go_wp2_with (go_at_call 157;refine (HI.out _).mono ?_;rintro e w' ⟨rfl,rfl⟩)
   go_roundw
   case rel=>exact ⟨j+1,by omega,by rw [HF.out],H_ (by have:=HR.out.year (1970+(j:Int)+1);rw [show (1970+((j+1:Nat):Int))=1970+(j:Int)+1 by omega];exact this)⟩
   case measure=>simp [intOf];omega
  ·obtain rfl:j=K:=by omega
   have hn:=f2 rfl
   have hn2:¬X≤L:=by omega
   clear f1 f2
   by_cases hp:j≤230
   ·have q1:(1970:Int)≤1970+(j:Int):=by omega
    have q2:(1970:Int)+(j:Int)≤2200:=by omega
    go_wp2_with (first|(go_at_call 157;refine (HI.out _).mono ?_;rintro e w' ⟨rfl,rfl⟩)|(go_at_call 193;refine (year_any _ _).mono ?_;rintro e w' ⟨rfl,rfl⟩))
    have HMJ:=H_ (HM.out hp)
    rw [←HLe.out] at HMJ
    have HO:Hid (date (1970+(j:Int)) ((J:Int)+1) (L-ms (1970+(j:Int)) J+1)=outOf day j J):=H_ (by rw [HLe.out];exact (if_pos hp).symm)
    clear HM HLe HF HH hn hn2 hc0 hg0
    go_loopw [0] (fun x wr=>∃i:Nat,i≤J∧x=.int .i64 (L-ms (1970+(j:Int)) i)∧Hid (Two w wr (1970+(j:Int)) ((i:Int)+1))) (fun x _=>(intOf x).toNat)
    case atStart=>exact ⟨0,by omega,by simp [ms],HR⟩
    case round =>
     obtain ⟨i,hi,rfl,HR2⟩:=hrel
     obtain ⟨Z,Y,hZe,hY,z0,z1,y0,y1,f1,f2,f3⟩:=HMJ.out i hi
     have hc0:=HR2.out.c0
     have hc1:=HR2.out.c1
     have hg1:=HR2.out.g1
     have HMD:=H_ (fun w=>spec_md (1970+(j:Int)) ((i:Int)+1) w)
     rw [←hY] at HMD
     rw [←hZe]
     have HF:=H_ f3
     have HZe:=H_ hZe
     have i2:(i:Int)<12:=by omega
     clear hZe hY f3
     by_cases hlt2:i<J
     ·have hn:=f1 hlt2
      have hn2:Y≤Z:=by omega
      have i3:(i:Int)+1<12:=by omega
      clear f1 f2
      go_wp2_with fail
      refine (HMD.out _).mono ?_
      rintro e w2 ⟨rfl,hb2⟩
      have HR3:=H_ (HR2.out.below hb2)
      have hc0:=HR3.out.c0
      have hc1:=HR3.out.c1
      have hg1:=HR3.out.g1
      clear hb2
      go_wp2_with fail
      refine (HMD.out _).mono ?_
      rintro e w3 ⟨rfl,hb3⟩
      have HR4:=H_ (HR3.out.below hb3)
      have hc0:=HR4.out.c0
      have hc1:=HR4.out.c1
      have hg1:=HR4.out.g1
      clear hb3
      go_wp2_with fail
      go_roundw
      case rel=>exact ⟨i+1,by omega,by rw [HF.out],H_ (by have:=HR4.out.month ((i:Int)+1+1);rw [show (((i+1:Nat):Int)+1)=(i:Int)+1+1 by omega];exact this)⟩
      case measure=>simp [intOf];omega
     ·obtain rfl:i=J:=by omega
      have hn:=f2 rfl
      have hn2:¬Y≤Z:=by omega
      clear f1 f2
      rw [←HZe.out] at HO
      by_cases hl:i=11
      ·subst hl
       have hc2:=HR2.out.c2
       have hg2:=HR2.out.g2
       have r0:=HR2.out.r0
       have r1:=HR2.out.r1
       have r2:=HR2.out.r2
       have e0:=HR2.out.f0
       have e1:=HR2.out.f1
       have e2:=HR2.out.f2
       go_wp2_with fail
       refine bodyPost_ret (v:=date (1970+(j:Int)) 12 (Z+1)) (by simp [date,results,Tryz.results192,go_sem,r0,r1,r2]) rfl ⟨by rw [←HO.out];rfl,?_⟩
       repeat' first|exact HR2.out.bel|apply Below.setCell
       all_goals simp
      ·have i3:(i:Int)+1<12:=by omega
       go_wp2_with fail
       refine (HMD.out _).mono ?_
       rintro e w2 ⟨rfl,hb2⟩
       have HR3:=H_ (HR2.out.below hb2)
       have hc0:=HR3.out.c0
       have hc1:=HR3.out.c1
       have hc2:=HR3.out.c2
       have hg2:=HR3.out.g2
       have r0:=HR3.out.r0
       have r1:=HR3.out.r1
       have r2:=HR3.out.r2
       have e0:=HR3.out.f0
       have e1:=HR3.out.f1
       have e2:=HR3.out.f2
       clear hb2
       go_wp2_with fail
       refine bodyPost_ret (v:=date (1970+(j:Int)) ((i:Int)+1) (Z+1)) (by simp [date,results,Tryz.results192,go_sem,r0,r1,r2]) rfl ⟨by rw [←HO.out],?_⟩
       repeat' first|exact HR3.out.bel|apply Below.setCell
       all_goals simp
   ·have q1:(1970:Int)≤1970+(j:Int):=by omega
    have q2:¬(1970:Int)+(j:Int)≤2200:=by omega
    have q3:decide ((1970:Int)+(j:Int)≤2200)=false:=decide_eq_false q2
    have r0:=HR.out.r0
    have r1:=HR.out.r1
    have r2:=HR.out.r2
    have e0:=HR.out.f0
    have e1:=HR.out.f1
    have e2:=HR.out.f2
    have HO:Hid (date 0 0 0=outOf day j J):=H_ (if_neg hp).symm
    go_wp2_with (first|(go_at_call 157;refine (HI.out _).mono ?_;rintro e w' ⟨rfl,rfl⟩)|(go_at_call 193;refine (year_any _ _).mono ?_;rintro e w' ⟨rfl,rfl⟩))
    refine bodyPost_ret (v:=date 0 0 0) (by simp [date,results,Tryz.results192,go_sem,r0,r1,r2]) rfl ⟨by rw [HO.out],?_⟩
    repeat' first|exact HR.out.bel|apply Below.setCell
    all_goals exact Nat.le_refl _
end DateR
end Go.Proofs.YtnceeaccbcfopaaGreatDoor
