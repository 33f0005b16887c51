/-
  What a right meter costs: the model's side. The condition: the meter is right, so much can be rated.
  From the row's premise on the program's table to the walk's: its variable holds the months' days; and a world that meets the premise. No condition.
  From the row's premise on the program's own error to the walk's: its variable holds an error; and a world that meets the premise. No condition.
  From the row's premise on the program's own error to the walk's: its variable holds an error; and a world that meets the premise. No condition.
  From the row's premise on the program's table and its two own errors to the walk's; and a world that meets the premise. No condition.
-/
import Derived.Test.YtcilbmhkhllmjaaGreatDoorTie
import Derived.ChangeSame
import Derived.ChangeVars
import Derived.JoinedOf
import Derived.ProofKit
import Derived.LaidLaws
import Derived.LaidMore
import Derived.LaidHandle
import Derived.MakeChecks
import Derived.Lib.LaidTab
import Derived.Stop.Joined
import Derived.Stop.LaidErr
import Derived.LaidSub
import Derived.OpenShut
import Derived.Test.YtcilbmhkhllmjaaGreatDoorF21
namespace Go.Proofs.YtcilbmhkhllmjaaGreatDoor
open Go.ChangeShapes Go.WideShapes Go.ChangeAt Go.RowKit
set_option linter.unusedVariables false
namespace CatR
open FixR (In out)
theorem max_any (a b:Int) (w:World):Calls Tryz.prog 115 #[.int .i64 a,.int .i64 b] w fun e w'=>e=.returned (.int .i64 (mx a b))∧w'=w:=by
 unfold mx
 rcases (show (a<b∧¬b<a)∨(¬a<b∧b<a)∨(¬a<b∧¬b<a∧a=b) by omega) with ⟨h,h2⟩|⟨h,h2⟩|⟨h,h2,h3⟩
 all_goals
  simp only [h,if_true,if_false]
  go_enter Tryz.func115,Tryz.ntmps115
  go_wp2
  go_ret
  exact ⟨by first|rfl|exact ret_int h3.symm,rfl⟩
theorem minS (a b:Int) (w:World):Calls Tryz.prog 110 #[.int .i64 a,.int .i64 b] w fun e w'=>e=.returned (.int .i64 (mn a b))∧w'=w:=by
 unfold mn
 by_cases h:a<b
 all_goals
  simp only [h,if_true,if_false]
  go_enter Tryz.func110,Tryz.ntmps110
  go_wp2
  go_ret
  exact ⟨rfl,rfl⟩
theorem mx_comm (a b:Int):mx a b=mx b a:=by unfold mx;split<;>split<;>omega
theorem Z3.drewN {p:Nat} {w:World} (h:Z3 p w) (n:Nat):Z3 p (w.drewN n):=h
set_option maxRecDepth 100000 in
set_option maxHeartbeats 4000000 in
theorem spec_rate (v:Value) (m:Me) (u:Int) (w:World) (hR:MRight m) (hu:0≤u∧u≤1000000000000) (hM:IsMe v m w) :
 Calls Tryz.prog 83 #[v,.int .i64 u] w fun e w'=>e=.returned (out (rO m u).1 (rO m u).2)∧Below w.heap.size w w':=by
 obtain ⟨ta,tc,rfl,hT⟩:=hM
 have HAB:=H_ (amt_bd hR.2.2.1 hu)
 have HRB:=H_ (rt_bd hR hu)
 have HOU:Hid (∀w,Calls Tryz.prog 116 #[.int .i64 (rt m u)] w fun e w'=>e=.returned (out (rO m u).1 (rO m u).2)∧Below w.heap.size w w'):=H_ (fun w=>by
  by_cases h:rt m u≤1000000000000000
  ·rw [rO_in h];exact FixR.outS_in _ (by unfold In;have:=HRB.out;omega) w
  ·rw [rO_over h];exact FixR.outS_over _ (by unfold In;omega) w)
 have hw:=used_w hu hR.2.2.1
 have HMA:Hid (∀w,Calls Tryz.prog 115 #[.int .i64 0,.int .i64 (u-m.f)] w fun e w'=>e=.returned (.int .i64 (amt m u))∧w'=w):=H_ (fun w=>by have:=max_any 0 (u-m.f) w;rw [mx_comm] at this;exact this)
 have HRT0:Hid (0<u→rt m u=mx (bs m u) m.l):=H_ (fun h=>if_pos h)
 have HRT1:Hid (u≤0→rt m u=bs m u):=H_ (fun h=>if_neg (by omega))
 have HBS:Hid (bs m u=bif m.wh then wc m.ts (amt m u) else ps m.ts (amt m u) m.ts.length):=rfl
 have HTR:=H_ hR.2.2.2.2
 generalize (rO m u).1=O1 at *
 generalize (rO m u).2=O2 at *
 generalize rt m u=R at *
 generalize bs m u=B at *
 obtain ⟨nm,g,wh,f,l,ts⟩:=m
 simp only at *
 obtain ⟨W,hW⟩:∃W,W=(w.alloc (Obj.cells #[.string nm,.int .i64 g,.bool wh,.int .i64 f,.int .i64 l,.slice ta ts.length tc] 117)).alloc (Obj.cells #[.int .i64 0,.int .i64 0,.int .i64 0] 125):=⟨_,rfl⟩
 have HB0:Hid (Below w.heap.size w W):=H_ (by rw [hW];exact ((Below.refl _ _).alloc (by simp;try omega) _).alloc (by simp;try omega) _)
 have HK0:Hid (Blk w.heap.size [.string nm,.int .i64 g,.bool wh,.int .i64 f,.int .i64 l,.slice ta ts.length tc] W):=H_ (by rw [hW];exact (Blk.new w _ _).alloc _)
 have HZ0:Hid (Z3 (w.heap.size+1) W):=H_ (by rw [hW];have:=Z3.new (w.alloc (Obj.cells #[.string nm,.int .i64 g,.bool wh,.int .i64 f,.int .i64 l,.slice ta ts.length tc] 117)) 125;simpa using this)
 have HW:=H_ hW
 have HT:=H_ hT
 generalize amt ⟨nm,g,wh,f,l,ts⟩ u=n at *
 have hz:=hT.1
 obtain ⟨len,hl⟩:∃len,len=ts.length:=⟨_,rfl⟩
 have HZ:=H_ hl
 rw [←hl] at HT HK0 HW HBS ⊢
 have h5:len≤5:=by have:=(show TRight ts from HTR.out).2.1;omega
 have h1:1≤len:=by have:=(show TRight ts from HTR.out).1;omega
 obtain ⟨X,hX⟩:∃X,X=u-f:=⟨_,rfl⟩
 rw [←hX] at hw HMA
 have hw:wrap64 (u-f)=X:=by rw [←hX];exact hw
 clear hT hR hu hz hl hX hW
 cases wh
 ·obtain rfl:B=ps ts n len:=HBS.out
  go_enter Tryz.func83,Tryz.ntmps83
  go_wp2_with (go_at_call 115;refine (HMA.out _).mono ?_;rintro e w7 ⟨rfl,rfl⟩)
  rw [←HW.out]
  go_loopw [6,7,8] (fun x y z wr=>∃k:Nat,k≤len∧x=.int .i64 (ps ts n k)∧y=.int .i64 (tA ts k)∧z=.int .i64 k∧Hid (Below w.heap.size w wr)∧Hid (Z3 (w.heap.size+1) wr)∧Hid (Blk w.heap.size [.string nm,.int .i64 g,.bool false,.int .i64 f,.int .i64 l,.slice ta len tc] wr)) (fun x y z _=>len-(intOf z).toNat)
  case atStart=>exact ⟨0,by omega,rfl,rfl,rfl,HB0,HZ0,HK0⟩
  case round =>
   obtain ⟨k,hk,rfl,rfl,rfl,HB,HZR,HK⟩:=hrel
   by_cases hlt:k<len
   ·have hlt2:(k:Int)<(len:Int):=by omega
    obtain ⟨b,off,rfl,hbl,d0,d1⟩:=tis_at (HT.out.below HB.out) k hlt
    have e0:wr.cell? ⟨b,off+k*2,none⟩=some (.int .i64 (tU ts k)):=d0
    have e1:wr.cell? ⟨b,off+k*2+1,none⟩=some (.int .i64 (tP ts k)):=d1
    clear d0 d1
    have hl1:=HK.out.1
    have c2:wr.cell? ⟨w.heap.size,2,none⟩=some (.bool false):=HK.out.2 2 (by simp)
    have c4:wr.cell? ⟨w.heap.size,4,none⟩=some (.int .i64 l):=HK.out.2 4 (by simp)
    have c5:wr.cell? ⟨w.heap.size,5,none⟩=some (.slice (some ⟨b,off,none⟩) len tc):=HK.out.2 5 (by simp)
    have HKL:Hid (k<ts.length):=H_ (by have:=HZ.out;omega)
    have HPB:=H_ (part_bd HTR.out HAB.out.1 k HKL.out)
    have HM1:=H_ (fun w=>minS n (tU ts k) w)
    have HM2:=H_ (fun w=>minS n (tA ts k) w)
    have HSB:=H_ (ps_all HTR.out HAB.out (k+1) HKL.out)
    have HS1:Hid (ps ts n (k+1)=ps ts n k+part ts n k*tP ts k):=rfl
    have hk1:IntKind.i64.wrap (mn n (tU ts k)-mn n (tA ts k))=part ts n k:=by
     have:=HPB.out
     rw [IntKind.wrap_i64];omega
    have HP2:=H_ (mul_bd HPB.out.1 (pr_bd HTR.out k HKL.out))
    obtain ⟨V,hV⟩:∃V,V=part ts n k*tP ts k:=⟨_,rfl⟩
    rw [←hV] at HP2 HS1
    have hk2:IntKind.i64.wrap (part ts n k*tP ts k)=V:=by
     have h1:=HP2.out
     have:=HPB.out
     rw [←hV,IntKind.wrap_i64];omega
    have hj2:wrap64 (part ts n k*tP ts k)=V:=by
     have h1:=HP2.out
     have:=HPB.out
     rw [←hV];unfold wrap64;omega
    have hk3:IntKind.i64.wrap (ps ts n k+V)=ps ts n (k+1):=by
     have:=HSB.out
     rw [HS1.out] at this ⊢
     rw [IntKind.wrap_i64];omega
    have hj3:wrap64 (ps ts n k+V)=ps ts n (k+1):=by
     have:=HSB.out
     rw [HS1.out] at this ⊢
     unfold wrap64;omega
    clear hV
    have HUA:Hid (tA ts (k+1)=tU ts k):=rfl
    obtain ⟨S1,hS1⟩:∃S1,S1=ps ts n (k+1):=⟨_,rfl⟩
    rw [←hS1] at hk3 hj3
    have HS2:=H_ hS1
    generalize hqq:part ts n k=Q at *
    generalize mn n (tU ts k)=M1 at *
    generalize mn n (tA ts k)=M2 at *
    generalize ps ts n k=S0 at *
    generalize tA ts k=A at *
    generalize tU ts k=U at *
    generalize tP ts k=P at *
    have HAl:=H_ (fun o=>HB.out.alloc HB.out.size o)
    have HZA:=H_ (fun o=>HZR.out.below ((Below.refl _ _).alloc (Nat.le_refl _) o))
    have HKA:=H_ (fun o=>HK.out.alloc o)
    clear HPB HSB HS1 hS1 hqq HP2
    go_wp2_with fail
    go_quiet ((first|(go_at_call_of 110 (Value.int .i64 U);exact Calls.quiet_of_same (HM1.out _))|(go_at_call_of 110 (Value.int .i64 A);exact Calls.quiet_of_same (HM2.out _))))
    go_wp2_with fail
    go_roundw
    case rel=>exact ⟨k+1,by omega,by first|(rw [←HS2.out];done)|(rw [←HS2.out,hj2,hj3];done)|(rw [←HS2.out,hj3];done),by rw [HUA.out],by go_num,H_ (bdrewN (HAl.out _) _),H_ ((HZA.out _).drewN _),H_ ((HKA.out _).drewN _)⟩
    case measure=>simp [intOf];omega
   ·have hlt2:¬(k:Int)<(len:Int):=by omega
    obtain rfl:k=len:=by omega
    have hl1:=HK.out.1
    have c2:wr.cell? ⟨w.heap.size,2,none⟩=some (.bool false):=HK.out.2 2 (by simp)
    have c4:wr.cell? ⟨w.heap.size,4,none⟩=some (.int .i64 l):=HK.out.2 4 (by simp)
    have c5:wr.cell? ⟨w.heap.size,5,none⟩=some (.slice ta k tc):=HK.out.2 5 (by simp)
    have HBX:=HB
    have HZX:=HZR
    by_cases hu0:0<u
    ·have HMX:=H_ (fun w=>max_any (ps ts n k) l w)
     rw [←HRT0.out hu0] at HMX
     go_wp2_with (first|(go_at_call 115;refine (HMX.out _).mono ?_;rintro e w7 ⟨rfl,rfl⟩))
     refine (HOU.out _).mono ?_
     rintro e w5 ⟨rfl,hb5⟩
     have HB5:=H_ (HBX.out.trans (hb5.mono HBX.out.size))
     obtain ⟨hz,⟨x0,d0⟩,⟨x1,d1⟩,⟨x2,d2⟩,y0,y1,y2⟩:=HZX.out.below hb5
     clear hb5
     unfold out
     go_wp2_with fail
     refine bodyPost_ret (v:=out O1 O2) (by simp [out,results,Tryz.results83,go_sem,d0,d1,d2]) rfl ⟨rfl,?_⟩
     exact below3 HB5.out (by omega) _ _ _
    ·rw [HRT1.out (by omega)] at HOU
     go_wp2_with fail
     refine (HOU.out _).mono ?_
     rintro e w5 ⟨rfl,hb5⟩
     have HB5:=H_ (HBX.out.trans (hb5.mono HBX.out.size))
     obtain ⟨hz,⟨x0,d0⟩,⟨x1,d1⟩,⟨x2,d2⟩,y0,y1,y2⟩:=HZX.out.below hb5
     clear hb5
     unfold out
     go_wp2_with fail
     refine bodyPost_ret (v:=out O1 O2) (by simp [out,results,Tryz.results83,go_sem,d0,d1,d2]) rfl ⟨rfl,?_⟩
     exact below3 HB5.out (by omega) _ _ _
 ·obtain rfl:B=wc ts n:=HBS.out
  go_enter Tryz.func83,Tryz.ntmps83
  go_wp2_with (go_at_call 115;refine (HMA.out _).mono ?_;rintro e w7 ⟨rfl,rfl⟩)
  rw [←HW.out]
  go_loopw [6,7,8] (fun x y z wr=>∃k:Nat,k<len∧x=.int .i64 0∧y=.int .i64 0∧z=.int .i64 k∧Hid (∀i,i<k→tU ts i<n)∧Hid (Below w.heap.size w wr)∧Hid (Z3 (w.heap.size+1) wr)∧Hid (Blk w.heap.size [.string nm,.int .i64 g,.bool true,.int .i64 f,.int .i64 l,.slice ta len tc] wr)) (fun x y z _=>len-(intOf z).toNat)
  case atStart=>exact ⟨0,by omega,rfl,rfl,rfl,H_ (fun i hi=>absurd hi (by omega)),HB0,HZ0,HK0⟩
  case round =>
   obtain ⟨k,hlt,rfl,rfl,rfl,HA,HB,HZR,HK⟩:=hrel
   have hlt2:(k:Int)<(len:Int):=by omega
   obtain ⟨b,off,rfl,hbl,d0,d1⟩:=tis_at (HT.out.below HB.out) k hlt
   have e0:wr.cell? ⟨b,off+k*2,none⟩=some (.int .i64 (tU ts k)):=d0
   have e1:wr.cell? ⟨b,off+k*2+1,none⟩=some (.int .i64 (tP ts k)):=d1
   clear d0 d1
   have hl1:=HK.out.1
   have c2:wr.cell? ⟨w.heap.size,2,none⟩=some (.bool true):=HK.out.2 2 (by simp)
   have c4:wr.cell? ⟨w.heap.size,4,none⟩=some (.int .i64 l):=HK.out.2 4 (by simp)
   have c5:wr.cell? ⟨w.heap.size,5,none⟩=some (.slice (some ⟨b,off,none⟩) len tc):=HK.out.2 5 (by simp)
   have HAl:=H_ (fun o=>HB.out.alloc HB.out.size o)
   have HZA:=H_ (fun o=>HZR.out.below ((Below.refl _ _).alloc (Nat.le_refl _) o))
   have HKA:=H_ (fun o=>HK.out.alloc o)
   by_cases hq:n≤tU ts k
   ·have HWC:=H_ (wc_at (ts:=ts) (n:=n) (k:=k) ⟨by have:=HZ.out;omega,HA.out,hq⟩)
    have HWB:=H_ (wc_bd HTR.out HAB.out (k:=k) (by have:=HZ.out;omega))
    have hj2:wrap64 (n*tP ts k)=wc ts n:=by
     have:=HWB.out
     rw [HWC.out];unfold wrap64;omega
    obtain ⟨V,hV⟩:∃V,V=wc ts n:=⟨_,rfl⟩
    rw [←hV] at hj2 HRT0 HRT1
    generalize tU ts k=U at *
    generalize tP ts k=P at *
    have HBX:=H_ (HAl.out (.cells #[.int .i64 U,.int .i64 P] 162))
    have HZX:=H_ (HZA.out (.cells #[.int .i64 U,.int .i64 P] 162))
    clear HWC HWB hV
    by_cases hu0:0<u
    ·have HMX:=H_ (fun w=>max_any V l w)
     rw [←HRT0.out hu0] at HMX
     go_wp2_with (first|(go_at_call 115;refine (HMX.out _).mono ?_;rintro e w7 ⟨rfl,rfl⟩))
     refine (HOU.out _).mono ?_
     rintro e w5 ⟨rfl,hb5⟩
     have HB5:=H_ (HBX.out.trans (hb5.mono HBX.out.size))
     obtain ⟨hz,⟨x0,d0⟩,⟨x1,d1⟩,⟨x2,d2⟩,y0,y1,y2⟩:=HZX.out.below hb5
     clear hb5
     unfold out
     go_wp2_with fail
     refine bodyPost_ret (v:=out O1 O2) (by simp [out,results,Tryz.results83,go_sem,d0,d1,d2]) rfl ⟨rfl,?_⟩
     exact below3 HB5.out (by omega) _ _ _
    ·rw [HRT1.out (by omega)] at HOU
     go_wp2_with fail
     refine (HOU.out _).mono ?_
     rintro e w5 ⟨rfl,hb5⟩
     have HB5:=H_ (HBX.out.trans (hb5.mono HBX.out.size))
     obtain ⟨hz,⟨x0,d0⟩,⟨x1,d1⟩,⟨x2,d2⟩,y0,y1,y2⟩:=HZX.out.below hb5
     clear hb5
     unfold out
     go_wp2_with fail
     refine bodyPost_ret (v:=out O1 O2) (by simp [out,results,Tryz.results83,go_sem,d0,d1,d2]) rfl ⟨rfl,?_⟩
     exact below3 HB5.out (by omega) _ _ _
   ·have HA1:Hid (∀i,i<k+1→tU ts i<n):=H_ (fun i hi=>by
     by_cases e:i=k
     ·subst e;omega
     ·exact HA.out i (by omega))
    have HK1:Hid (k+1<len):=H_ (by have:=not_all HTR.out HAB.out.2 (k:=k+1) (by have:=HZ.out;omega) HA1.out;have:=HZ.out;omega)
    generalize tU ts k=U at *
    generalize tP ts k=P at *
    go_wp2_with fail
    go_roundw
    case rel=>exact ⟨k+1,HK1.out,rfl,rfl,by go_num,HA1,H_ (HAl.out _),H_ (HZA.out _),H_ (HKA.out _)⟩
    case measure=>simp [intOf];omega
end CatR
end Go.Proofs.YtcilbmhkhllmjaaGreatDoor
namespace Go.Proofs.YtcilbmhkhllmjaaGreatDoor
open Go.ChangeShapes Go.WideShapes Go.RowKit
namespace Lay
theorem own:ownKnob Tryz.prog.godebug=none:=by kernel_rfl
theorem laidOut:laidOutB Tryz.prog=true:=by kernel_rfl
theorem gv:Tryz.prog.globalNamed "loop.example/g00562/impl.monthLengths"=some 3:=by kernel_rfl
theorem gt:(Tryz.prog.globals[3]?).map (·.type)=some 264:=by kernel_rfl
theorem cellsE:Tryz.prog.cellsOf 2=1:=by kernel_rfl
theorem cellsT:Tryz.prog.cellsOf 264=12:=by kernel_rfl
def laid {H:Type}:List (String × DataW H):=[("loop.example/g00562/impl.monthLengths",Rows.laid_loop_example_g00562_impl_monthLengths)]
theorem of_tab {W:World} (hT:Lib.TabIs Tryz.prog W "loop.example/g00562/impl.monthLengths" .i64 DateR.tab):DateR.Laid W:=by
 have hc:∀k:Nat,k<12→W.cell? ⟨3,k,none⟩=some (.int .i64 (DateR.tab.getD k 0)):=fun k hk=>hT.cell gv k hk
 refine ⟨?_,hc⟩
 rcases Nat.lt_or_ge 3 W.heap.size with h|h
 ·exact h
 ·have h0:W.heap[3]? = none:=Array.getElem?_eq_none h
  have:=hc 0 (by omega)
  simp [World.cell?,h0] at this
theorem of_laid {W:World} (h:laidMetH Tryz.prog laid W):DateR.Laid W:=by
 rw [MakeChecks.laidMetH_plain _ _ _ (by kernel_rfl)] at h
 exact of_tab (Lib.tabIs_of_head gv gt Tryz.underlying264 Tryz.underlying2 cellsE cellsT (zs:=DateR.tab) (k:=.i64) h)
theorem door_met (os:Os) (args:Array Value):laidMetH Tryz.prog laid ((World.doorLaid Tryz.prog 400 os).forCall (fun _ _=>0) ⟨#[],args,[]⟩).memory :=
 laidMetH_of_parts3 (fuel:=8) (laidMet_of_run' 8 (by kernel_rfl) (by kernel_rfl)) (by kernel_rfl) (by kernel_rfl)
end Lay
namespace Snm
theorem laidOut:laidOutB Tryz.prog=true:=by kernel_rfl
theorem own:ownKnob Tryz.prog.godebug=none:=by kernel_rfl
theorem gv:Tryz.prog.globalNamed "loop.example/g00562/impl.errNoMeter"=some 0:=by kernel_rfl
theorem gt:(Tryz.prog.globals[0]?).map (·.type)=some 169:=by kernel_rfl
theorem star : "*" ++ "errors.errorString" = "*errors.errorString":=by decide
theorem row (u:TypeId) (h:Tryz.prog.typeName? 3 u=some "*errors.errorString"):u=265 :=
 typeName_ptr_named (nm:= "errors.errorString") (by rw [star];kernel_rfl) (by kernel_rfl) (by decide) u (by rw [star];exact h)
theorem cellsE:Tryz.prog.cellsOf 289=1:=by kernel_rfl
theorem cellsS:Tryz.prog.cellsOf 9=1:=by kernel_rfl
def laid {H:Type}:List (String × DataW H):=[("loop.example/g00562/impl.errNoMeter",Rows.laid_loop_example_g00562_impl_errNoMeter)]
theorem of_laid {W:World} (h:laidMetH Tryz.prog laid W):∃a:Addr,W.var? Tryz.prog "loop.example/g00562/impl.errNoMeter"=some #[.iface 265 (.pointer (some a))]:=by
 rw [MakeChecks.laidMetH_plain _ _ _ (by kernel_rfl)] at h
 obtain ⟨a,s,hv,_⟩:=laid_sentinel h gv gt Tryz.underlying169 row Tryz.underlying265 Tryz.underlying289 rfl rfl Tryz.underlying9 cellsE cellsS
 exact ⟨a,hv⟩
theorem laid_of {W:World} {a:Addr} (h:W.var? Tryz.prog "loop.example/g00562/impl.errNoMeter"=some #[.iface 265 (.pointer (some a))]):CatR.Laid W:=by
 have hg:W.cell? ⟨0,0,none⟩=some (.iface 265 (.pointer (some a))):=by simpa using World.var?_cell gv h 0
 refine ⟨?_,a,hg⟩
 rcases Nat.lt_or_ge 0 W.heap.size with h|h
 ·exact h
 ·have h0:W.heap[0]? = none:=Array.getElem?_eq_none h
  simp [World.cell?,h0] at hg
theorem door_met (os:Os) (args:Array Value):laidMetH Tryz.prog laid ((World.doorLaid Tryz.prog 400 os).forCall (fun _ _=>0) ⟨#[],args,[]⟩).memory :=
 laidMetH_of_parts3 (fuel:=8) (laidMet_of_run' 8 (by kernel_rfl) (by kernel_rfl)) (by kernel_rfl) (by kernel_rfl)
end Snm
namespace Snt
theorem laidOut:laidOutB Tryz.prog=true:=by kernel_rfl
theorem own:ownKnob Tryz.prog.godebug=none:=by kernel_rfl
theorem gv:Tryz.prog.globalNamed "loop.example/g00562/impl.errRunsOver"=some 2:=by kernel_rfl
theorem gt:(Tryz.prog.globals[2]?).map (·.type)=some 169:=by kernel_rfl
theorem star : "*" ++ "errors.errorString" = "*errors.errorString":=by decide
theorem row (u:TypeId) (h:Tryz.prog.typeName? 3 u=some "*errors.errorString"):u=265 :=
 typeName_ptr_named (nm:= "errors.errorString") (by rw [star];kernel_rfl) (by kernel_rfl) (by decide) u (by rw [star];exact h)
theorem cellsE:Tryz.prog.cellsOf 289=1:=by kernel_rfl
theorem cellsS:Tryz.prog.cellsOf 9=1:=by kernel_rfl
def laid {H:Type}:List (String × DataW H):=[("loop.example/g00562/impl.errRunsOver",Rows.laid_loop_example_g00562_impl_errRunsOver)]
theorem of_laid {W:World} (h:laidMetH Tryz.prog laid W):∃a:Addr,W.var? Tryz.prog "loop.example/g00562/impl.errRunsOver"=some #[.iface 265 (.pointer (some a))]:=by
 rw [MakeChecks.laidMetH_plain _ _ _ (by kernel_rfl)] at h
 obtain ⟨a,s,hv,_⟩:=laid_sentinel h gv gt Tryz.underlying169 row Tryz.underlying265 Tryz.underlying289 rfl rfl Tryz.underlying9 cellsE cellsS
 exact ⟨a,hv⟩
theorem laid_of {W:World} {x:Value} {u:TypeId} (h:W.var? Tryz.prog "loop.example/g00562/impl.errRunsOver"=some #[.iface u x]):FixR.Laid W:=by
 have hg:W.cell? ⟨2,0,none⟩=some (.iface u x):=by simpa using World.var?_cell gv h 0
 refine ⟨?_,u,x,hg⟩
 rcases Nat.lt_or_ge 2 W.heap.size with h|h
 ·exact h
 ·have h0:W.heap[2]? = none:=Array.getElem?_eq_none h
  simp [World.cell?,h0] at hg
theorem door_met (os:Os) (args:Array Value):laidMetH Tryz.prog laid ((World.doorLaid Tryz.prog 400 os).forCall (fun _ _=>0) ⟨#[],args,[]⟩).memory :=
 laidMetH_of_parts3 (fuel:=8) (laidMet_of_run' 8 (by kernel_rfl) (by kernel_rfl)) (by kernel_rfl) (by kernel_rfl)
end Snt
namespace LayB
theorem own:ownKnob Tryz.prog.godebug=none:=by kernel_rfl
theorem laidOut:laidOutB Tryz.prog=true:=by kernel_rfl
def Ok (w:World):Prop:=CatR.Laid w∧DateR.Laid w∧FixR.Laid w
theorem Ok.below {w w':World} (h:Ok w) (hb:Below w.heap.size w w'):Ok w':=⟨h.1.below hb,h.2.1.below hb,h.2.2.below hb⟩
def laid {H:Type}:List (String × DataW H):=[("loop.example/g00562/impl.errRunsOver",Rows.laid_loop_example_g00562_impl_errRunsOver),("loop.example/g00562/impl.monthLengths",Rows.laid_loop_example_g00562_impl_monthLengths),("loop.example/g00562/impl.errNoMeter",Rows.laid_loop_example_g00562_impl_errNoMeter)]
theorem part1:(laid (H:=Unit)).filter (fun x=>x.1 == "loop.example/g00562/impl.monthLengths")=Lay.laid:=by rfl
theorem part2:(laid (H:=Unit)).filter (fun x=>x.1 == "loop.example/g00562/impl.errNoMeter")=Snm.laid:=by rfl
theorem part3:(laid (H:=Unit)).filter (fun x=>x.1 == "loop.example/g00562/impl.errRunsOver")=Snt.laid:=by rfl
theorem of_laid {W:World} (h:laidMetH Tryz.prog laid W):Ok W:=by
 have h1:=h.filter (fun x=>x.1 == "loop.example/g00562/impl.monthLengths")
 have h2:=h.filter (fun x=>x.1 == "loop.example/g00562/impl.errNoMeter")
 have h3:=h.filter (fun x=>x.1 == "loop.example/g00562/impl.errRunsOver")
 rw [part1] at h1
 rw [part2] at h2
 rw [part3] at h3
 obtain ⟨a,hv⟩:=Snm.of_laid h2
 obtain ⟨b,hu⟩:=Snt.of_laid h3
 exact ⟨Snm.laid_of hv,Lay.of_laid h1,Snt.laid_of hu⟩
theorem door_met (os:Os) (args:Array Value):laidMetH Tryz.prog laid ((World.doorLaid Tryz.prog 400 os).forCall (fun _ _=>0) ⟨#[],args,[]⟩).memory :=
 laidMetH_of_parts3 (fuel:=8) (laidMet_of_run' 8 (by kernel_rfl) (by kernel_rfl)) (by kernel_rfl) (by kernel_rfl)
section
variable {H:Type} {enc:TypeId × Value→H} {P:Program} {w:World} {spare:Nat→Bool}
theorem trodVars_three {n0 n1 n2:String} {gs:List (DataW H)} {ps:List MemPlace} (h:DataW.TrodVars enc P w spare [n0,n1,n2] gs ps):∃d0 d1 d2,gs=[d0,d1,d2]:=by
 cases gs with
 | nil=>simp [DataW.TrodVars] at h
 | cons d ds =>
  obtain ⟨g0,t0,cs0,f0,p0,q0,h1,h2,h3,h4,hs,e⟩:=h
  obtain ⟨_,_,_,_,d0,_,_,_,_,_,d1,_,rfl,_⟩:=Go.trodVars_two hs
  exact ⟨d,_,_,rfl⟩
end
end LayB
end Go.Proofs.YtcilbmhkhllmjaaGreatDoor
