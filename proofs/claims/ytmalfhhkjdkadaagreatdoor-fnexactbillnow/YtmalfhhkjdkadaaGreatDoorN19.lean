/-
  What a right meter costs: the model's side. The condition: the meter is right, so much can be rated.
  The law's own marks in a list of lines: written, and found again. The condition: at most 1048576 lines to write, 40 to find.
  Answers that are lists of lines: read, of one's own, kept, marked. The conditions: at most 1048576 lines.
  The law's own marks in a catalog and in a meter's tiers: written, and found again. The condition: all is small.
-/
import Derived.Deep.RegionHeld3
import Derived.Lib.ConvBytes
import Derived.Laws.BytesArg
import Derived.Test.YtmalfhhkjdkadaaGreatDoorN18
namespace Go.Proofs.YtmalfhhkjdkadaaGreatDoor
open Go.ChangeShapes Go.WideShapes Go.ChangeAt Go.RowKit
set_option linter.unusedVariables false
namespace CatR
open FixR (In out)
theorem max_any (a b:Int) (w:World):Calls Tryz.prog 105 #[.int .i64 a,.int .i64 b] w fun e w'=>e=.returned (.int .i64 (mx a b))∧w'=w:=by
 unfold mx
 rcases (show (a<b∧¬b<a)∨(¬a<b∧b<a)∨(¬a<b∧¬b<a∧a=b) by omega) with ⟨h,h2⟩|⟨h,h2⟩|⟨h,h2,h3⟩
 all_goals
  simp only [h,if_true,if_false]
  go_enter Tryz.func105,Tryz.ntmps105
  go_wp2
  go_ret
  exact ⟨by first|rfl|exact ret_int h3.symm,rfl⟩
theorem minS (a b:Int) (w:World):Calls Tryz.prog 106 #[.int .i64 a,.int .i64 b] w fun e w'=>e=.returned (.int .i64 (mn a b))∧w'=w:=by
 unfold mn
 by_cases h:a<b
 all_goals
  simp only [h,if_true,if_false]
  go_enter Tryz.func106,Tryz.ntmps106
  go_wp2
  go_ret
  exact ⟨rfl,rfl⟩
theorem mx_comm (a b:Int):mx a b=mx b a:=by unfold mx;split<;>split<;>omega
theorem Z3.drewN {p:Nat} {w:World} (h:Z3 p w) (n:Nat):Z3 p (w.drewN n):=h
set_option maxRecDepth 100000 in
set_option maxHeartbeats 4000000 in
theorem spec_rate (v:Value) (m:Me) (u:Int) (w:World) (hR:MRight m) (hu:0≤u∧u≤1000000000000) (hM:IsMe v m w) :
 Calls Tryz.prog 59 #[v,.int .i64 u] w fun e w'=>e=.returned (out (rO m u).1 (rO m u).2)∧Below w.heap.size w w':=by
 obtain ⟨ta,tc,rfl,hT⟩:=hM
 have HAB:=hid_intro (amt_bd hR.2.2.1 hu)
 have HRB:=hid_intro (rt_bd hR hu)
 have HOU:Hid (∀w,Calls Tryz.prog 107 #[.int .i64 (rt m u)] w fun e w'=>e=.returned (out (rO m u).1 (rO m u).2)∧Below w.heap.size w w'):=hid_intro (fun w=>by
  by_cases h:rt m u≤1000000000000000
  ·rw [rO_in h];exact FixR.outS_in _ (by unfold In;have:=HRB.out;omega) w
  ·rw [rO_over h];exact FixR.outS_over _ (by unfold In;omega) w)
 have hw:=used_w hu hR.2.2.1
 have HMA:Hid (∀w,Calls Tryz.prog 105 #[.int .i64 0,.int .i64 (u-m.f)] w fun e w'=>e=.returned (.int .i64 (amt m u))∧w'=w):=hid_intro (fun w=>by have:=max_any 0 (u-m.f) w;rw [mx_comm] at this;exact this)
 have HRT0:Hid (0<u→rt m u=mx (bs m u) m.l):=hid_intro (fun h=>if_pos h)
 have HRT1:Hid (u≤0→rt m u=bs m u):=hid_intro (fun h=>if_neg (by omega))
 have HBS:Hid (bs m u=bif m.wh then wc m.ts (amt m u) else ps m.ts (amt m u) m.ts.length):=rfl
 have HTR:=hid_intro hR.2.2.2.2
 generalize (rO m u).1=O1 at *
 generalize (rO m u).2=O2 at *
 generalize rt m u=R at *
 generalize bs m u=B at *
 obtain ⟨nm,g,wh,f,l,ts⟩:=m
 simp only at *
 obtain ⟨W,hW⟩:∃W,W=(w.alloc (Obj.cells #[.string nm,.int .i64 g,.bool wh,.int .i64 f,.int .i64 l,.slice ta ts.length tc] 119)).alloc (Obj.cells #[.int .i64 0,.int .i64 0,.int .i64 0] 121):=⟨_,rfl⟩
 have HB0:Hid (Below w.heap.size w W):=hid_intro (by rw [hW];exact ((Below.refl _ _).alloc (by simp;try omega) _).alloc (by simp;try omega) _)
 have HK0:Hid (Blk w.heap.size [.string nm,.int .i64 g,.bool wh,.int .i64 f,.int .i64 l,.slice ta ts.length tc] W):=hid_intro (by rw [hW];exact (Blk.new w _ _).alloc _)
 have HZ0:Hid (Z3 (w.heap.size+1) W):=hid_intro (by rw [hW];have:=Z3.new (w.alloc (Obj.cells #[.string nm,.int .i64 g,.bool wh,.int .i64 f,.int .i64 l,.slice ta ts.length tc] 119)) 121;simpa using this)
 have HW:=hid_intro hW
 have HT:=hid_intro hT
 generalize amt ⟨nm,g,wh,f,l,ts⟩ u=n at *
 have hz:=hT.1
 obtain ⟨len,hl⟩:∃len,len=ts.length:=⟨_,rfl⟩
 have HZ:=hid_intro hl
 rw [←hl] at HT HK0 HW HBS ⊢
 have h5:len≤5:=by have:=(show TRight ts from HTR.out).2.1;omega
 have h1:1≤len:=by have:=(show TRight ts from HTR.out).1;omega
 obtain ⟨X,hX⟩:∃X,X=u-f:=⟨_,rfl⟩
 rw [←hX] at hw HMA
 have hw:wrap64 (u-f)=X:=by rw [←hX];exact hw
 clear hT hR hu hz hl hX hW
 cases wh
 ·obtain rfl:B=ps ts n len:=HBS.out
  go_enter Tryz.func59,Tryz.ntmps59
  go_wp2_with (go_at_call 105;refine (HMA.out _).mono ?_;rintro e w7 ⟨rfl,rfl⟩)
  rw [←HW.out]
  go_loopw [6,7,8] (fun x y z wr=>∃k:Nat,k≤len∧x=.int .i64 (ps ts n k)∧y=.int .i64 (tA ts k)∧z=.int .i64 k∧Hid (Below w.heap.size w wr)∧Hid (Z3 (w.heap.size+1) wr)∧Hid (Blk w.heap.size [.string nm,.int .i64 g,.bool false,.int .i64 f,.int .i64 l,.slice ta len tc] wr)) (fun x y z _=>len-(intOf z).toNat)
  case atStart=>exact ⟨0,by omega,rfl,rfl,rfl,HB0,HZ0,HK0⟩
  case round =>
   obtain ⟨k,hk,rfl,rfl,rfl,HB,HZR,HK⟩:=hrel
   by_cases hlt:k<len
   ·have hlt2:(k:Int)<(len:Int):=by omega
    obtain ⟨b,off,rfl,hbl,d0,d1⟩:=tis_at (HT.out.below HB.out) k hlt
    have e0:wr.cell? ⟨b,off+k*2,none⟩=some (.int .i64 (tU ts k)):=d0
    have e1:wr.cell? ⟨b,off+k*2+1,none⟩=some (.int .i64 (tP ts k)):=d1
    clear d0 d1
    have hl1:=HK.out.1
    have c2:wr.cell? ⟨w.heap.size,2,none⟩=some (.bool false):=HK.out.2 2 (by simp)
    have c4:wr.cell? ⟨w.heap.size,4,none⟩=some (.int .i64 l):=HK.out.2 4 (by simp)
    have c5:wr.cell? ⟨w.heap.size,5,none⟩=some (.slice (some ⟨b,off,none⟩) len tc):=HK.out.2 5 (by simp)
    have HKL:Hid (k<ts.length):=hid_intro (by have:=HZ.out;omega)
    have HPB:=hid_intro (part_bd HTR.out HAB.out.1 k HKL.out)
    have HM1:=hid_intro (fun w=>minS n (tU ts k) w)
    have HM2:=hid_intro (fun w=>minS n (tA ts k) w)
    have HSB:=hid_intro (ps_all HTR.out HAB.out (k+1) HKL.out)
    have HS1:Hid (ps ts n (k+1)=ps ts n k+part ts n k*tP ts k):=rfl
    have hk1:IntKind.i64.wrap (mn n (tU ts k)-mn n (tA ts k))=part ts n k:=by
     have:=HPB.out
     rw [IntKind.wrap_i64];omega
    have HP2:=hid_intro (mul_bd HPB.out.1 (pr_bd HTR.out k HKL.out))
    obtain ⟨V,hV⟩:∃V,V=part ts n k*tP ts k:=⟨_,rfl⟩
    rw [←hV] at HP2 HS1
    have hk2:IntKind.i64.wrap (part ts n k*tP ts k)=V:=by
     have h1:=HP2.out
     have:=HPB.out
     rw [←hV,IntKind.wrap_i64];omega
    have hj2:wrap64 (part ts n k*tP ts k)=V:=by
     have h1:=HP2.out
     have:=HPB.out
     rw [←hV];unfold wrap64;omega
    have hk3:IntKind.i64.wrap (ps ts n k+V)=ps ts n (k+1):=by
     have:=HSB.out
     rw [HS1.out] at this ⊢
     rw [IntKind.wrap_i64];omega
    have hj3:wrap64 (ps ts n k+V)=ps ts n (k+1):=by
     have:=HSB.out
     rw [HS1.out] at this ⊢
     unfold wrap64;omega
    clear hV
    have HUA:Hid (tA ts (k+1)=tU ts k):=rfl
    obtain ⟨S1,hS1⟩:∃S1,S1=ps ts n (k+1):=⟨_,rfl⟩
    rw [←hS1] at hk3 hj3
    have HS2:=hid_intro hS1
    generalize hqq:part ts n k=Q at *
    generalize mn n (tU ts k)=M1 at *
    generalize mn n (tA ts k)=M2 at *
    generalize ps ts n k=S0 at *
    generalize tA ts k=A at *
    generalize tU ts k=U at *
    generalize tP ts k=P at *
    have HAl:=hid_intro (fun o=>HB.out.alloc HB.out.size o)
    have HZA:=hid_intro (fun o=>HZR.out.below ((Below.refl _ _).alloc (Nat.le_refl _) o))
    have HKA:=hid_intro (fun o=>HK.out.alloc o)
    clear HPB HSB HS1 hS1 hqq HP2
    go_wp2_with fail
    go_quiet ((first|(go_at_call_of 106 (Value.int .i64 U);exact Calls.quiet_of_same (HM1.out _))|(go_at_call_of 106 (Value.int .i64 A);exact Calls.quiet_of_same (HM2.out _))))
    go_wp2_with fail
    go_roundw
    case rel=>exact ⟨k+1,by omega,by first|(rw [←HS2.out];done)|(rw [←HS2.out,hj2,hj3];done)|(rw [←HS2.out,hj3];done),by rw [HUA.out],by go_num,hid_intro (bdrewN (HAl.out _) _),hid_intro ((HZA.out _).drewN _),hid_intro ((HKA.out _).drewN _)⟩
    case measure=>simp [intOf];omega
   ·have hlt2:¬(k:Int)<(len:Int):=by omega
    obtain rfl:k=len:=by omega
    have hl1:=HK.out.1
    have c2:wr.cell? ⟨w.heap.size,2,none⟩=some (.bool false):=HK.out.2 2 (by simp)
    have c4:wr.cell? ⟨w.heap.size,4,none⟩=some (.int .i64 l):=HK.out.2 4 (by simp)
    have c5:wr.cell? ⟨w.heap.size,5,none⟩=some (.slice ta k tc):=HK.out.2 5 (by simp)
    have HBX:=HB
    have HZX:=HZR
    by_cases hu0:0<u
    ·have HMX:=hid_intro (fun w=>max_any (ps ts n k) l w)
     rw [←HRT0.out hu0] at HMX
     go_wp2_with (first|(go_at_call 105;refine (HMX.out _).mono ?_;rintro e w7 ⟨rfl,rfl⟩))
     refine (HOU.out _).mono ?_
     rintro e w5 ⟨rfl,hb5⟩
     have HB5:=hid_intro (HBX.out.trans (hb5.mono HBX.out.size))
     obtain ⟨hz,⟨x0,d0⟩,⟨x1,d1⟩,⟨x2,d2⟩,y0,y1,y2⟩:=HZX.out.below hb5
     clear hb5
     unfold out
     go_wp2_with fail
     refine bodyPost_ret (v:=out O1 O2) (by simp [out,results,Tryz.results59,go_sem,d0,d1,d2]) rfl ⟨rfl,?_⟩
     exact below3 HB5.out (by omega) _ _ _
    ·rw [HRT1.out (by omega)] at HOU
     go_wp2_with fail
     refine (HOU.out _).mono ?_
     rintro e w5 ⟨rfl,hb5⟩
     have HB5:=hid_intro (HBX.out.trans (hb5.mono HBX.out.size))
     obtain ⟨hz,⟨x0,d0⟩,⟨x1,d1⟩,⟨x2,d2⟩,y0,y1,y2⟩:=HZX.out.below hb5
     clear hb5
     unfold out
     go_wp2_with fail
     refine bodyPost_ret (v:=out O1 O2) (by simp [out,results,Tryz.results59,go_sem,d0,d1,d2]) rfl ⟨rfl,?_⟩
     exact below3 HB5.out (by omega) _ _ _
 ·obtain rfl:B=wc ts n:=HBS.out
  go_enter Tryz.func59,Tryz.ntmps59
  go_wp2_with (go_at_call 105;refine (HMA.out _).mono ?_;rintro e w7 ⟨rfl,rfl⟩)
  rw [←HW.out]
  go_loopw [6,7,8] (fun x y z wr=>∃k:Nat,k<len∧x=.int .i64 0∧y=.int .i64 0∧z=.int .i64 k∧Hid (∀i,i<k→tU ts i<n)∧Hid (Below w.heap.size w wr)∧Hid (Z3 (w.heap.size+1) wr)∧Hid (Blk w.heap.size [.string nm,.int .i64 g,.bool true,.int .i64 f,.int .i64 l,.slice ta len tc] wr)) (fun x y z _=>len-(intOf z).toNat)
  case atStart=>exact ⟨0,by omega,rfl,rfl,rfl,hid_intro (fun i hi=>absurd hi (by omega)),HB0,HZ0,HK0⟩
  case round =>
   obtain ⟨k,hlt,rfl,rfl,rfl,HA,HB,HZR,HK⟩:=hrel
   have hlt2:(k:Int)<(len:Int):=by omega
   obtain ⟨b,off,rfl,hbl,d0,d1⟩:=tis_at (HT.out.below HB.out) k hlt
   have e0:wr.cell? ⟨b,off+k*2,none⟩=some (.int .i64 (tU ts k)):=d0
   have e1:wr.cell? ⟨b,off+k*2+1,none⟩=some (.int .i64 (tP ts k)):=d1
   clear d0 d1
   have hl1:=HK.out.1
   have c2:wr.cell? ⟨w.heap.size,2,none⟩=some (.bool true):=HK.out.2 2 (by simp)
   have c4:wr.cell? ⟨w.heap.size,4,none⟩=some (.int .i64 l):=HK.out.2 4 (by simp)
   have c5:wr.cell? ⟨w.heap.size,5,none⟩=some (.slice (some ⟨b,off,none⟩) len tc):=HK.out.2 5 (by simp)
   have HAl:=hid_intro (fun o=>HB.out.alloc HB.out.size o)
   have HZA:=hid_intro (fun o=>HZR.out.below ((Below.refl _ _).alloc (Nat.le_refl _) o))
   have HKA:=hid_intro (fun o=>HK.out.alloc o)
   by_cases hq:n≤tU ts k
   ·have HWC:=hid_intro (wc_at (ts:=ts) (n:=n) (k:=k) ⟨by have:=HZ.out;omega,HA.out,hq⟩)
    have HWB:=hid_intro (wc_bd HTR.out HAB.out (k:=k) (by have:=HZ.out;omega))
    have hj2:wrap64 (n*tP ts k)=wc ts n:=by
     have:=HWB.out
     rw [HWC.out];unfold wrap64;omega
    obtain ⟨V,hV⟩:∃V,V=wc ts n:=⟨_,rfl⟩
    rw [←hV] at hj2 HRT0 HRT1
    generalize tU ts k=U at *
    generalize tP ts k=P at *
    have HBX:=hid_intro (HAl.out (.cells #[.int .i64 U,.int .i64 P] 171))
    have HZX:=hid_intro (HZA.out (.cells #[.int .i64 U,.int .i64 P] 171))
    clear HWC HWB hV
    by_cases hu0:0<u
    ·have HMX:=hid_intro (fun w=>max_any V l w)
     rw [←HRT0.out hu0] at HMX
     go_wp2_with (first|(go_at_call 105;refine (HMX.out _).mono ?_;rintro e w7 ⟨rfl,rfl⟩))
     refine (HOU.out _).mono ?_
     rintro e w5 ⟨rfl,hb5⟩
     have HB5:=hid_intro (HBX.out.trans (hb5.mono HBX.out.size))
     obtain ⟨hz,⟨x0,d0⟩,⟨x1,d1⟩,⟨x2,d2⟩,y0,y1,y2⟩:=HZX.out.below hb5
     clear hb5
     unfold out
     go_wp2_with fail
     refine bodyPost_ret (v:=out O1 O2) (by simp [out,results,Tryz.results59,go_sem,d0,d1,d2]) rfl ⟨rfl,?_⟩
     exact below3 HB5.out (by omega) _ _ _
    ·rw [HRT1.out (by omega)] at HOU
     go_wp2_with fail
     refine (HOU.out _).mono ?_
     rintro e w5 ⟨rfl,hb5⟩
     have HB5:=hid_intro (HBX.out.trans (hb5.mono HBX.out.size))
     obtain ⟨hz,⟨x0,d0⟩,⟨x1,d1⟩,⟨x2,d2⟩,y0,y1,y2⟩:=HZX.out.below hb5
     clear hb5
     unfold out
     go_wp2_with fail
     refine bodyPost_ret (v:=out O1 O2) (by simp [out,results,Tryz.results59,go_sem,d0,d1,d2]) rfl ⟨rfl,?_⟩
     exact below3 HB5.out (by omega) _ _ _
   ·have HA1:Hid (∀i,i<k+1→tU ts i<n):=hid_intro (fun i hi=>by
     by_cases e:i=k
     ·subst e;omega
     ·exact HA.out i (by omega))
    have HK1:Hid (k+1<len):=hid_intro (by have:=not_all HTR.out HAB.out.2 (k:=k+1) (by have:=HZ.out;omega) HA1.out;have:=HZ.out;omega)
    generalize tU ts k=U at *
    generalize tP ts k=P at *
    go_wp2_with fail
    go_roundw
    case rel=>exact ⟨k+1,HK1.out,rfl,rfl,by go_num,HA1,hid_intro (HAl.out _),hid_intro (HZA.out _),hid_intro (HKA.out _)⟩
    case measure=>simp [intOf];omega
end CatR
namespace LinR
open RowG
open EvtR (Pt)
open MarkR (mk mT mark_any)
def mN (k:Nat):N:=⟨mT k,((k+1:Nat):Int)⟩
def mC (o:Nat):Option Value:=(mN (1+2*(o / 2))).cells[o % 2]?
theorem mC_at (i x:Nat) (hx:x<2):mC (i*2+x)=(mN (1+2*i)).cells[x]?:=by
 have e1:(i*2+x) / 2=i:=by omega
 have e2:(i*2+x) % 2=x:=by omega
 unfold mC
 rw [e1,e2]
theorem rgrown {w w':World} (hb:Below w.heap.size w w') (row:Option Nat):w.grownBy w' row:=⟨hb.os,hb.tape,hb.output,hb.size,fun k hk _=>hb.block k hk⟩
theorem gtrans {w w1 w2:World} {g:Option Nat} (h1:w.grownBy w1 g) (h2:w1.grownBy w2 g):w.grownBy w2 g :=
 ⟨h2.os.trans h1.os,h2.tape.trans h1.tape,h2.output.trans h1.output,Nat.le_trans h1.size h2.size,fun k hk hne=>(h2.block k (by have:=h1.size;omega) hne).trans (h1.block k hk hne)⟩
theorem mark_step {g m i:Nat} {w0 w:World} (hp:Pt g m w) (x:Nat) (hm:Wr mC (i*2+x) g w) (hg:w0.grownBy w (some g)) (hx:x<2) (hj:i*2+x<m) (v:Value) (hv:(mN (1+2*i)).cells[x]? = some v) :
 Pt g m (w.setCell ⟨g,i*2+x,none⟩ v)∧Wr mC (i*2+(x+1)) g (w.setCell ⟨g,i*2+x,none⟩ v)∧w0.grownBy (w.setCell ⟨g,i*2+x,none⟩ v) (some g) :=
 ⟨hp.set _ _,hm.more hp hj v ((mC_at i x hx).trans hv),gtrans hg (grown_set _ g _ _)⟩
set_option maxRecDepth 100000 in
set_option maxHeartbeats 4000000 in
theorem marks_any (g n cap:Nat) (w:World) (hn:n≤1048576) (h0:Pt g (n*2) w) :
 Calls Tryz.prog 41 #[.slice (some ⟨g,0,none⟩) n cap,.int .i64 1] w fun e w'=>e=.returned (.int .i64 (1+2*n:Nat))∧Pt g (n*2) w'∧Wr mC (n*2) g w'∧w.grownBy w' (some g):=by
 have HP:=hid_intro h0
 have HT:Hid (∀(z:Int) (K:Nat),z=K→1≤K→K<100000000→∀w,Calls Tryz.prog 86 #[.int .i64 z] w fun e w'=>e=.returned (.string (mT K))∧Below w.heap.size w w'):=hid_intro (fun z K e h0 h w=>by subst e;exact mark_any K h0 h w)
 clear h0
 go_enter Tryz.func41,Tryz.ntmps41
 go_wp2_with fail
 go_loopw [5,1] (fun x z wr=>∃i:Nat,x=.int .i64 (i:Int)∧z=.int .i64 (1+2*(i:Int))∧i≤n∧Hid (Pt g (n*2) wr)∧Hid (Wr mC (i*2) g wr)∧Hid (w.grownBy wr (some g))) (fun x _ _=>n-(intOf x).toNat)
 case atStart=>exact ⟨0,rfl,rfl,by omega,HP,hid_intro (fun o ho=>absurd ho (by omega)),hid_intro ⟨rfl,rfl,rfl,Nat.le_refl _,fun _ _ _=>rfl⟩⟩
 case round =>
  obtain ⟨i,rfl,rfl,hi,HP,HM,HG⟩:=hrel
  by_cases hin:i=n
  ·subst hin
   go_wp2_with fail
   go_ret
   exact ⟨by go_num,HP.out,HM.out,HG.out⟩
  ·have h1:(i:Int)<(n:Int):=by omega
   go_wp2_with fail
   refine (HT.out _ (1+2*i) (by push_cast;omega) (by omega) (by omega) _).mono ?_
   rintro e w1 ⟨rfl,hb⟩
   have HP1:=hid_intro (HP.out.below hb)
   have HM1:=hid_intro (HM.out.below HP.out hb)
   have HG1:=hid_intro (gtrans HG.out (rgrown hb _))
   obtain ⟨v0,c0⟩:=HP1.out.has (i*2) (by omega)
   have f0:=HP1.out.free (i*2) (by omega)
   obtain ⟨v1,c1⟩:=HP1.out.has (i*2+1) (by omega)
   have f1:=HP1.out.free (i*2+1) (by omega)
   have HS:=hid_intro (mark_step (i:=i) HP1.out 0 HM1.out HG1.out (by omega) (by omega) (.string (mT (1+2*i))) rfl)
   have HS2:=hid_intro (mark_step (i:=i) HS.out.1 1 HS.out.2.1 HS.out.2.2 (by omega) (by omega) (.int .i64 (1+2*(i:Int)+1)) (by simp [mN,N.cells]))
   clear hb HP HM HG HP1 HM1 HG1 HS
   go_wp2_with fail
   go_roundw
   case rel=>exact ⟨i+1,by go_num,by go_num,by omega,hid_intro HS2.out.1,hid_intro (by have:=HS2.out.2.1;rw [show (i+1)*2=i*2+(1+1) by omega];exact this),hid_intro HS2.out.2.2⟩
   case measure=>simp [intOf];omega
theorem mC_cell {n i g:Nat} {w:World} (h:Wr mC (n*2) g w) (hi:i<n) (x:Nat) (hx:x<2):w.cell? ⟨g,i*2+x,none⟩=(mN (1+2*i)).cells[x]? :=
 (h (i*2+x) (by omega)).trans (mC_at i x hx)
def BoxM (w:World) (g o:Nat) (t0:ByteArray) (n:Int) (w':World):Prop:=Below w.heap.size w w'∧g<w'.heap.size∧w'.cell? ⟨g,o,none⟩=some (.string t0)∧w'.cell? ⟨g,o+1,none⟩=some (.int .i64 n)
theorem BoxM.below {w w1 w2:World} {g o:Nat} {t0:ByteArray} {n:Int} (h:BoxM w g o t0 n w1) (hb:Below w1.heap.size w1 w2):BoxM w g o t0 n w2:=by
 obtain ⟨h0,hl,c0,c1⟩:=h
 have c:=fun x=>hb.cell (p:=⟨g,x,none⟩) hl
 exact ⟨h0.trans (hb.mono h0.size),by have:=hb.size;omega,(c _).trans c0,(c _).trans c1⟩
theorem BoxM.drew {w w1:World} {g o:Nat} {t0:ByteArray} {n:Int} (h:BoxM w g o t0 n w1):BoxM w g o t0 n w1.drew:=⟨h.1.drew,h.2⟩
set_option maxRecDepth 100000 in
set_option maxHeartbeats 4000000 in
theorem held_any (g n cap:Nat) (w:World) (hn:n≤1048576) (h0:Pt g (n*2) w) (hm:Wr mC (n*2) g w) :
 Calls Tryz.prog 42 #[.slice (some ⟨g,0,none⟩) n cap,.int .i64 1] w fun e w'=>e=.returned (.int .i64 (1+2*n:Nat))∧Below w.heap.size w w':=by
 have HP:=hid_intro h0
 have HM:=hid_intro hm
 clear h0 hm
 go_enter Tryz.func42,Tryz.ntmps42
 go_wp2_with fail
 go_loopw [5,1] (fun x z wr=>∃i:Nat,x=.int .i64 (i:Int)∧z=.int .i64 (1+2*(i:Int))∧i≤n∧Hid (Below w.heap.size w wr)) (fun x _ _=>n-(intOf x).toNat)
 case atStart=>exact ⟨0,rfl,rfl,by omega,hid_intro (Below.refl _ _)⟩
 case round =>
  obtain ⟨i,rfl,rfl,hi,HB⟩:=hrel
  by_cases hin:i=n
  ·subst hin
   go_wp2_with fail
   go_ret
   exact ⟨by go_num,HB.out⟩
  ·have h1:(i:Int)<(n:Int):=by omega
   have HC:Hid (∀x,x<2→wr.cell? ⟨g,i*2+x,none⟩=(mN (1+2*i)).cells[x]?):=hid_intro (fun x hx=>(HB.out.cell (p:=⟨g,i*2+x,none⟩) HP.out.lt).trans (mC_cell HM.out (by omega) x hx))
   have q0:wr.cell? ⟨g,i*2,none⟩=some (.string (mT (1+2*i))):=HC.out 0 (by omega)
   have q1:wr.cell? ⟨g,i*2+1,none⟩=some (.int .i64 (1+2*(i:Int)+1)):=(HC.out 1 (by omega)).trans (by simp [mN,N.cells])
   have HT0:Hid (∀w,Calls Tryz.prog 86 #[.int .i64 (1+2*(i:Int))] w fun e w'=>e=.returned (.string (mT (1+2*i)))∧Below w.heap.size w w'):=hid_intro (fun w=>by have:=mark_any (1+2*i) (by omega) (by omega) w;rw [show ((1+2*i:Nat):Int)=1+2*(i:Int) by omega] at this;exact this)
   clear HC
   generalize mT (1+2*i)=T0 at *
   have HS0:Hid (BoxM w g (i*2) T0 (1+2*(i:Int)+1) wr):=hid_intro ⟨HB.out,by have:=HB.out.size;have:=HP.out.lt;omega,q0,q1⟩
   have HS1:=hid_intro HS0.out.drew
   go_wp2_with fail
   go_region_held3 (fun w'=>Below w.heap.size w w'∧g<w'.heap.size∧w'.cell? ⟨g,i*2,none⟩=some (.string T0)∧w'.cell? ⟨g,i*2+1,none⟩=some (.int .i64 (1+2*(i:Int)+1))) (first|assumption|(exact HS0.out)|(exact HS1.out)|(exact BoxM.below (w:=w) (g:=g) (o:=i*2) (t0:=T0) (n:=1+2*(i:Int)+1) (by assumption) hb))
    (first|(go_at_call 86;refine (HT0.out _).mono ?_;rintro e w' ⟨rfl,hb⟩))
   rename_i hS
   replace HS0:=hid_intro hS
   have q0:=HS0.out.2.2.1
   have q1:=HS0.out.2.2.2
   clear hS HS1
   have HB2:=hid_intro HS0.out.1
   go_wp2_with fail
   go_roundw
   case rel=>exact ⟨i+1,by go_num,by go_num,by omega,HB2⟩
   case measure=>simp [intOf];omega
set_option maxHeartbeats 4000000 in
theorem marks_nil (ao:Option Addr) (cap:Nat) (w:World):Calls Tryz.prog 41 #[.slice ao 0 cap,.int .i64 1] w fun e w'=>e=.returned (.int .i64 1)∧Below w.heap.size w w':=by
 go_enter Tryz.func41,Tryz.ntmps41
 go_wp2_with fail
 go_loopw [5,1] (fun x z wr=>x=.int .i64 0∧z=.int .i64 1∧Hid (Below w.heap.size w wr)) (fun x _ _=>0)
 case atStart=>exact ⟨rfl,rfl,hid_intro (Below.refl _ _)⟩
 case round =>
  obtain ⟨rfl,rfl,HB⟩:=hrel
  go_wp2_with fail
  go_ret
  exact ⟨rfl,HB.out⟩
set_option maxHeartbeats 4000000 in
theorem held_nil (ao:Option Addr) (cap:Nat) (w:World):Calls Tryz.prog 42 #[.slice ao 0 cap,.int .i64 1] w fun e w'=>e=.returned (.int .i64 1)∧Below w.heap.size w w':=by
 go_enter Tryz.func42,Tryz.ntmps42
 go_wp2_with fail
 go_loopw [5,1] (fun x z wr=>x=.int .i64 0∧z=.int .i64 1∧Hid (Below w.heap.size w wr)) (fun x _ _=>0)
 case atStart=>exact ⟨rfl,rfl,hid_intro (Below.refl _ _)⟩
 case round =>
  obtain ⟨rfl,rfl,HB⟩:=hrel
  go_wp2_with fail
  go_ret
  exact ⟨rfl,HB.out⟩
def Mkd (ao:Option Addr) (n:Nat) (w:World):Prop:=n=0∨∃g,ao=some ⟨g,0,none⟩∧Pt g (n*2) w∧Wr mC (n*2) g w
theorem Mkd.below {ao:Option Addr} {n:Nat} {w w':World} (h:Mkd ao n w) (hb:Below w.heap.size w w'):Mkd ao n w':=by
 rcases h with h|⟨g,rfl,hp,hm⟩
 ·exact .inl h
 ·exact .inr ⟨g,rfl,hp.below hb,hm.below hp hb⟩
theorem heldL (ao:Option Addr) (n cap:Nat) (w:World) (hn:n≤1048576) (h:Mkd ao n w) :
 Calls Tryz.prog 42 #[.slice ao n cap,.int .i64 1] w fun e w'=>e=.returned (.int .i64 (1+2*n:Nat))∧Below w.heap.size w w':=by
 rcases h with rfl|⟨g,rfl,hp,hm⟩
 ·exact held_nil ao cap w
 ·exact held_any g n cap w hn hp hm
theorem markL (base:Nat) (ao:Option Addr) (l:List N) (cap:Nat) (w:World) (top:Nat) (hn:l.length≤1048576) (h:MadeG 2 N.cells N.zero base ao l w) (ht:l.length=0∨∀g,ao=some ⟨g,0,none⟩→g<top) :
 Calls Tryz.prog 41 #[.slice ao l.length cap,.int .i64 1] w fun e w'=>e=.returned (.int .i64 (1+2*l.length:Nat))∧Mkd ao l.length w'∧∃g,w.grownBy w' g∧∀x,g=some x→base≤x∧x<top:=by
 rcases Nat.eq_zero_or_pos l.length with h0|h0
 ·rw [h0]
  exact (marks_nil ao cap w).mono fun e w' h=>⟨h.1,.inl rfl,none,rgrown h.2 _,by simp⟩
 ·obtain ⟨g,rfl,hg,hp⟩:=h.own.resolve_left (by omega)
  have htp:=ht.resolve_left (by omega) g rfl
  exact (marks_any g l.length cap w hn hp).mono fun e w' h=>⟨h.1,.inr ⟨g,rfl,h.2.1,h.2.2.1⟩,some g,h.2.2.2,fun x hx=>by cases hx;exact ⟨hg,htp⟩⟩
end LinR
namespace EngR
open LinR ChG
open RowG (MadeG)
open EvtR (Pt)
def LnR (D:List N) (v:Value) (W:World):Prop:=∃ao cap,v=.slice ao D.length cap∧Lis ao D W
def LnW (D:List N) (b:Nat) (v:Value) (W:World):Prop:=∃ao cap,v=.slice ao D.length cap∧MadeG 2 N.cells N.zero b ao D W
theorem LnR.below {D:List N} {v:Value} {W W':World} (h:LnR D v W) (hb:Below W.heap.size W W'):LnR D v W':=by
 obtain ⟨ao,cap,e,h⟩:=h
 exact ⟨ao,cap,e,h.below hb⟩
theorem LnW.reads {D:List N} {b:Nat} {v:Value} {W:World} (h:LnW D b v W):LnR D v W:=by
 obtain ⟨ao,cap,e,h⟩:=h
 exact ⟨ao,cap,e,h.rws⟩
theorem made_kq {b:Nat} {ao:Option Addr} {D:List N} {W W':World} (h:MadeG 2 N.cells N.zero b ao D W) (hk:Kq b W W'):MadeG 2 N.cells N.zero b ao D W' :=
 ⟨rws_kq h.rws hk (h.own.imp id (fun ⟨g,e,hg,_⟩ b' off e'=>by rw [e] at e';simp at e';omega)),h.own.imp id (fun ⟨g,e,hg,hp⟩=>⟨g,e,hg,hk.pt hp hg⟩)⟩
theorem LnW.kq {D:List N} {b:Nat} {v:Value} {W W':World} (h:LnW D b v W) (hk:Kq b W W'):LnW D b v W':=by
 obtain ⟨ao,cap,e,h⟩:=h
 exact ⟨ao,cap,e,made_kq h hk⟩
theorem LnW.shape {D:List N} {b:Nat} {v:Value} {W:World} (h:LnW D b v W):∃(a:Option Addr) (n c:Nat),v=.slice a n c:=by
 obtain ⟨ao,cap,e,h⟩:=h
 exact ⟨ao,_,cap,e⟩
theorem eqLn {D:List N} (hn:D.length≤1048576) {v v':Value} {W:World} (h:LnR D v W) (h':LnR D v' W):Calls Tryz.prog 30 #[v,v'] W fun e w'=>e=.returned (.bool true)∧Below W.heap.size W w':=by
 obtain ⟨ao,cap,rfl,h⟩:=h
 obtain ⟨ao',cap',rfl,h'⟩:=h'
 exact eqLis_any ao ao' cap cap' D W hn h h'
theorem markLn {D:List N} (hn:D.length≤1048576) {b:Nat} {v:Value} {Wt W:World} (h:LnW D b v Wt) (hk:Kq b Wt W) :
 Calls Tryz.prog 41 #[v,.int .i64 1] W fun e w'=>∃KK:Nat,e=.returned (.int .i64 KK)∧Chg (fun x=>b≤x∧x<Wt.heap.size) W w' ∧
  ∀w2,Below w'.heap.size w' w2→Calls Tryz.prog 42 #[v,.int .i64 1] w2 fun e w3=>e=.returned (.int .i64 KK)∧Below w2.heap.size w2 w3:=by
 obtain ⟨ao,cap,rfl,h⟩:=h
 have ht:D.length=0∨∀g,ao=some ⟨g,0,none⟩→g<Wt.heap.size:=h.own.imp id (fun ⟨g,e,_,hp⟩ g' e'=>by
  have:=hp.lt
  rw [e] at e'
  simp only [Option.some.injEq,Addr.mk.injEq,and_true] at e'
  omega)
 refine (markL b ao D cap W Wt.heap.size hn (made_kq h hk) ht).mono ?_
 rintro e w' ⟨rfl,hM,g,hg,hgt⟩
 exact ⟨_,rfl,⟨hg.os,hg.tape,hg.output,hg.size,fun x hx hnx=>hg.block x hx (fun e=>hnx (hgt x e.symm))⟩,fun w2 hb=>heldL ao D.length cap w2 hn (hM.below hb)⟩
end EngR
namespace CatR
open EvtR (Pt)
structure Outs (base top:Nat) (w w':World):Prop where
 os:w'.os=w.os
 tape:w'.tape=w.tape
 output:w'.output=w.output
 size:w.heap.size≤w'.heap.size
 block:∀k,k<w.heap.size→(k<base∨top≤k)→w'.heap[k]? = w.heap[k]?
theorem Outs.refl (base top:Nat) (w:World):Outs base top w w:=⟨rfl,rfl,rfl,Nat.le_refl _,fun _ _ _=>rfl⟩
theorem Outs.trans {base top:Nat} {w w1 w2:World} (h:Outs base top w w1) (h2:Outs base top w1 w2):Outs base top w w2 :=
 ⟨h2.os.trans h.os,h2.tape.trans h.tape,h2.output.trans h.output,Nat.le_trans h.size h2.size,fun k hk hb=>(h2.block k (by have:=h.size;omega) hb).trans (h.block k hk hb)⟩
theorem Outs.below {base top:Nat} {w w1 w2:World} (h:Outs base top w w1) (hb:Below w1.heap.size w1 w2):Outs base top w w2 :=
 h.trans ⟨hb.os,hb.tape,hb.output,hb.size,fun k hk _=>hb.block k hk⟩
theorem Outs.grown {base top:Nat} {w w1 w2:World} {g:Nat} (h:Outs base top w w1) (hg:w1.grownBy w2 (some g)) (h1:base≤g) (h2:g<top):Outs base top w w2 :=
 h.trans ⟨hg.os,hg.tape,hg.output,hg.size,fun k hk hb=>hg.block k hk (fun e=>by simp at e;omega)⟩
theorem Outs.put {base top:Nat} {w w1:World} (h:Outs base top w w1) (g o:Nat) (v:Value) (h1:base≤g) (h2:g<top):Outs base top w (w1.setCell ⟨g,o,none⟩ v):=h.grown (RowG.grown_set w1 g o v) h1 h2
theorem pt_any {g m:Nat} {w:World} (h:Pt g m w) (b o:Nat) (v:Value):Pt g m (w.setCell ⟨b,o,none⟩ v):=by
 by_cases e:b=g
 ·subst e;exact h.set o v
 ·exact h.far e o v
theorem pt_gr {g m b:Nat} {w w':World} (h:Pt g m w) (hg:w.grownBy w' (some b)) (hp:b=g→Pt g m w'):Pt g m w':=by
 by_cases e:b=g
 ·exact hp e
 ·have e2:=hg.block g h.lt (fun q=>e (by simpa using q.symm))
  exact ⟨by have:=hg.size;have:=h.lt;omega,fun o ho=>by obtain ⟨v,hv⟩:=h.has o ho;exact ⟨v,(World.cell?_of_block (a:=⟨g,o,none⟩) e2).trans hv⟩,fun o ho=>(World.frozen?_of_block (a:=⟨g,o,none⟩) e2).trans (h.free o ho)⟩
def mTi (K o:Nat):Option Value:=some (.int .i64 ((K+o:Nat):Int))
set_option maxRecDepth 100000 in
set_option maxHeartbeats 4000000 in
theorem markTis (g n cap K:Nat) (w:World) (hn:n≤1048576) (hK:K≤1000000000000000) (h0:Pt g (n*2) w) :
 Calls Tryz.prog 137 #[.slice (some ⟨g,0,none⟩) n cap,.int .i64 K] w fun e w'=>e=.returned (.int .i64 (K+2*n:Nat))∧Pt g (n*2) w'∧RowG.Wr (mTi K) (n*2) g w'∧w.grownBy w' (some g):=by
 have HP:=hid_intro h0
 clear h0
 go_enter Tryz.func137,Tryz.ntmps137
 go_wp2_with fail
 go_loopw [5,1] (fun x z wr=>∃i:Nat,x=.int .i64 (i:Int)∧z=.int .i64 ((K:Int)+2*(i:Int))∧i≤n∧Hid (Pt g (n*2) wr)∧Hid (RowG.Wr (mTi K) (i*2) g wr)∧Hid (w.grownBy wr (some g))) (fun x _ _=>n-(intOf x).toNat)
 case atStart=>exact ⟨0,rfl,by go_num,by omega,HP,hid_intro (fun o ho=>absurd ho (by omega)),hid_intro ⟨rfl,rfl,rfl,Nat.le_refl _,fun _ _ _=>rfl⟩⟩
 case round =>
  obtain ⟨i,rfl,rfl,hi,HP,HM,HG⟩:=hrel
  by_cases hin:i=n
  ·subst hin
   go_wp2_with fail
   go_ret
   exact ⟨by go_num,HP.out,HM.out,HG.out⟩
  ·have h1:(i:Int)<(n:Int):=by omega
   obtain ⟨v0,c0⟩:=HP.out.has (i*2) (by omega)
   have f0:=HP.out.free (i*2) (by omega)
   obtain ⟨v1,c1⟩:=HP.out.has (i*2+1) (by omega)
   have f1:=HP.out.free (i*2+1) (by omega)
   have HM1:=hid_intro (HM.out.more HP.out (by omega) (.int .i64 ((K:Int)+2*(i:Int))) (by unfold mTi;congr 2;omega))
   have HP1:=hid_intro (HP.out.set (i*2) (.int .i64 ((K:Int)+2*(i:Int))))
   have HM2:=hid_intro (HM1.out.more HP1.out (by omega) (.int .i64 ((K:Int)+2*(i:Int)+1)) (by unfold mTi;congr 2;omega))
   have HP2:=hid_intro (HP1.out.set (i*2+1) (.int .i64 ((K:Int)+2*(i:Int)+1)))
   have HG2:=hid_intro (gtr (gtr HG.out (RowG.grown_set wr g (i*2) (.int .i64 ((K:Int)+2*(i:Int))))) (RowG.grown_set _ g (i*2+1) (.int .i64 ((K:Int)+2*(i:Int)+1))))
   clear HP HM HG HM1 HP1
   go_wp2_with fail
   go_roundw
   case rel=>exact ⟨i+1,by go_num,by go_num,by omega,HP2,hid_intro (by rw [show (i+1)*2=i*2+1+1 by omega];exact HM2.out),HG2⟩
   case measure=>simp [intOf];omega
theorem conv_x (w:World) (z:Int):(convert 203 9 (.slice (some ⟨w.heap.size,0,none⟩) 1 1)).run Tryz.prog (w.alloc (Obj.cells #[.int .u8 z] 5))=.ok (.string (strOfNums [z])) (w.alloc (Obj.cells #[.int .u8 z] 5)):=by
 refine run_convert_bytes_arg _ 203 5 Tryz.underlying203 Tryz.underlying5 w.heap.size 0 1 1 _ rfl ?_ 9 Tryz.underlying9
 intro i hi
 match i,hi with
 | 0,_=>simp [go_sem]
set_option maxRecDepth 100000 in
set_option maxHeartbeats 4000000 in
theorem mark_some (K:Nat) (h0:1≤K) (h:K<1000000000000000000) (w:World):Calls Tryz.prog 86 #[.int .i64 K] w fun e w'=>(∃T,e=.returned (.string T))∧Below w.heap.size w w':=by
 have h1:¬(K:Int)≤0:=by omega
 go_enter Tryz.func86,Tryz.ntmps86
 go_wp2_with fail
 go_loopw [0,3] (fun x z wr=>∃(f k:Nat) (out:ByteArray),x=.int .i64 (k:Int)∧z=.string out∧k<10 ^ f∧f≤18∧out.size+f=18∧Hid (Below w.heap.size w wr)) (fun x _ _=>(intOf x).toNat)
 case atStart=>exact ⟨18,K,⟨#[]⟩,rfl,rfl,by omega,by omega,rfl,hid_intro (Below.refl _ _)⟩
 case round =>
  obtain ⟨f,k,out,rfl,rfl,hk,hf,hz,HB⟩:=hrel
  by_cases hk0:k=0
  ·subst hk0
   have q1:¬9223372036854775807<1+out.size:=by omega
   go_wp2_with fail
   go_ret
   exact ⟨⟨_,rfl⟩,HB.out⟩
  ·obtain ⟨g,rfl⟩:∃g,f=g+1:=⟨f-1,by rcases f with _|f;simp at hk;omega;omega⟩
   have hk2:k / 10<10 ^ g:=by rw [Nat.pow_succ] at hk;omega
   have hkb:k<1000000000000000000:=by
    have:10 ^ (g+1)≤10 ^ 18:=Nat.pow_le_pow_right (by omega) hf
    omega
   have k1:(0:Int)<(k:Int):=by omega
   have e1:(k:Int) % 10=((k % 10:Nat):Int):=by omega
   have e2:(k:Int) / 10=((k / 10:Nat):Int):=by omega
   have e3:(k:Int).tmod 10=((k % 10:Nat):Int):=by rw [Int.tmod_eq_emod_of_nonneg (by omega)];omega
   have e4:(k:Int).tdiv 10=((k / 10:Nat):Int):=by rw [Int.tdiv_eq_ediv_of_nonneg (by omega)];omega
   have d10:k % 10<10:=by omega
   have dk:k / 10<k:=by omega
   have hC:(strOfNums [48+((k % 10:Nat):Int)]).size=1:=strOfNums_size _
   have hcv:=conv_x wr (48+((k % 10:Nat):Int))
   generalize k % 10=d at *
   generalize k / 10=q at *
   generalize strOfNums [48+(d:Int)]=T at *
   have q1:¬9223372036854775807<T.size+out.size:=by omega
   have HDk:=hid_intro dk
   clear dk hk
   go_wp2_with fail
   go_roundw
   case rel=>exact ⟨g,q,T++out,rfl,rfl,hk2,by omega,by rw [ByteArray.size_append];omega,hid_intro (HB.out.alloc HB.out.size _)⟩
   case measure=>simp [intOf];have:=HDk.out;omega
structure MkMes (base top g:Nat) (bs:Nat→Nat) (ls:Nat→Nat) (n:Nat) (w:World):Prop where
 lo:base≤g
 hi:g<top
 pt:Pt g (n*6) w
 tp:∀i,i<n→base≤bs i∧bs i<top∧bs i≠g∧Pt (bs i) (ls i*2) w∧ls i≤1048576
 sl:∀i,i<n→w.cell? ⟨g,i*6+5,none⟩=some (.slice (some ⟨bs i,0,none⟩) (ls i) (ls i))
theorem MkMes.below {base top g:Nat} {bs ls:Nat→Nat} {n:Nat} {w w':World} (h:MkMes base top g bs ls n w) (hb:Below w.heap.size w w'):MkMes base top g bs ls n w' :=
 ⟨h.lo,h.hi,h.pt.below hb,fun i hi=>by obtain ⟨a,b,c,d,e⟩:=h.tp i hi;exact ⟨a,b,c,d.below hb,e⟩,fun i hi=>(hb.cell (p:=⟨g,i*6+5,none⟩) h.pt.lt).trans (h.sl i hi)⟩
theorem MkMes.put {base top g:Nat} {bs ls:Nat→Nat} {n:Nat} {w:World} (h:MkMes base top g bs ls n w) (o:Nat) (v:Value) (ho:∀i,i<n→o≠i*6+5):MkMes base top g bs ls n (w.setCell ⟨g,o,none⟩ v) :=
 ⟨h.lo,h.hi,h.pt.set o v,fun i hi=>by obtain ⟨a,b,c,d,e⟩:=h.tp i hi;exact ⟨a,b,c,pt_any d g o v,e⟩,fun i hi=>(EvtR.cell_far o (i*6+5) (ho i hi) v).trans (h.sl i hi)⟩
theorem MkMes.tier {base top g:Nat} {bs ls:Nat→Nat} {n j:Nat} {w w':World} (h:MkMes base top g bs ls n w) (hj:j<n) (hg:w.grownBy w' (some (bs j))) (hp:Pt (bs j) (ls j*2) w') (hsame:∀i,i<n→bs i=bs j→ls i=ls j):MkMes base top g bs ls n w':=by
 obtain ⟨_,_,hjg,_,_⟩:=h.tp j hj
 have e:=hg.block g h.pt.lt (fun q=>hjg (by simpa using q.symm))
 exact ⟨h.lo,h.hi,pt_gr h.pt hg (fun q=>absurd q hjg),fun i hi=>by
  obtain ⟨a,b,c,d,e⟩:=h.tp i hi
  exact ⟨a,b,c,pt_gr d hg (fun q=>by rw [←q,hsame i hi q.symm];exact hp),e⟩,fun i hi=>(World.cell?_of_block (a:=⟨g,i*6+5,none⟩) e).trans (h.sl i hi)⟩
set_option maxRecDepth 100000 in
set_option maxHeartbeats 8000000 in
theorem markMes (base top g:Nat) (bs ls:Nat→Nat) (n cap:Nat) (w:World) (hn:n≤1048576) (hM:MkMes base top g bs ls n w) (hs:∀i j,i<n→j<n→bs i=bs j→ls i=ls j) :
 Calls Tryz.prog 84 #[.slice (some ⟨g,0,none⟩) n cap,.int .i64 1] w fun e w'=>∃K:Nat,e=.returned (.int .i64 K)∧1≤K∧K≤10000000000000∧MkMes base top g bs ls n w'∧Outs base top w w':=by
 have HM:=hid_intro hM
 have HS:=hid_intro hs
 have HT:Hid (∀(z:Int) (K:Nat),z=K→1≤K→K≤10000000000000→∀w,Calls Tryz.prog 86 #[.int .i64 z] w fun e w'=>(∃T,e=.returned (.string T))∧Below w.heap.size w w'):=hid_intro (fun z K e h0 h w=>by subst e;exact mark_some K h0 (by omega) w)
 have HTT:Hid (∀(g n cap:Nat) (z:Int) (K:Nat),z=K→n≤1048576→K≤10000000000000→∀w,Pt g (n*2) w→Calls Tryz.prog 137 #[.slice (some ⟨g,0,none⟩) n cap,.int .i64 z] w fun e w'=>e=.returned (.int .i64 (K+2*n:Nat))∧Pt g (n*2) w'∧RowG.Wr (mTi K) (n*2) g w'∧w.grownBy w' (some g)):=hid_intro (fun g n cap z K e hn hK w h=>by subst e;exact markTis g n cap K w hn (by omega) h)
 clear hM hs
 go_enter Tryz.func84,Tryz.ntmps84
 go_wp2_with fail
 go_loopw [5,1] (fun x z wr=>∃i K:Nat,x=.int .i64 (i:Int)∧z=.int .i64 (K:Int)∧i≤n∧1≤K∧K≤1+i*2097157∧Hid (MkMes base top g bs ls n wr)∧Hid (Outs base top w wr)) (fun x _ _=>n-(intOf x).toNat)
 case atStart=>exact ⟨0,1,rfl,rfl,by omega,by omega,by omega,HM,hid_intro (Outs.refl _ _ _)⟩
 case round =>
  obtain ⟨i,K,rfl,rfl,hi,hK1,hK2,HM,HO⟩:=hrel
  have hKb:K≤2200000000000:=by have:i*2097157≤1048576*2097157:=Nat.mul_le_mul_right _ (by omega);omega
  by_cases hin:i=n
  ·subst hin
   go_wp2_with fail
   go_ret
   exact ⟨K,rfl,hK1,by omega,HM.out,HO.out⟩
  ·have h1:(i:Int)<(n:Int):=by omega
   go_wp2_with fail
   refine (HT.out _ K rfl hK1 (by omega) _).mono ?_
   rintro e w1 ⟨⟨T,rfl⟩,hb⟩
   have HM1:=hid_intro (HM.out.below hb)
   have HO1:=hid_intro (HO.out.below hb)
   clear hb HM HO
   obtain ⟨v0,c0⟩:=HM1.out.pt.has (i*6) (by omega)
   have f0:=HM1.out.pt.free (i*6) (by omega)
   have hh0:∀j,j<n→i*6≠j*6+5:=fun j _=>by omega
   obtain ⟨v1,c1⟩:=HM1.out.pt.has (i*6+1) (by omega)
   have f1:=HM1.out.pt.free (i*6+1) (by omega)
   have hh1:∀j,j<n→i*6+1≠j*6+5:=fun j _=>by omega
   obtain ⟨v2,c2⟩:=HM1.out.pt.has (i*6+2) (by omega)
   have f2:=HM1.out.pt.free (i*6+2) (by omega)
   have hh2:∀j,j<n→i*6+2≠j*6+5:=fun j _=>by omega
   obtain ⟨v3,c3⟩:=HM1.out.pt.has (i*6+3) (by omega)
   have f3:=HM1.out.pt.free (i*6+3) (by omega)
   have hh3:∀j,j<n→i*6+3≠j*6+5:=fun j _=>by omega
   obtain ⟨v4,c4⟩:=HM1.out.pt.has (i*6+4) (by omega)
   have f4:=HM1.out.pt.free (i*6+4) (by omega)
   have hh4:∀j,j<n→i*6+4≠j*6+5:=fun j _=>by omega
   have c5:=HM1.out.sl i (by omega)
   obtain ⟨t1,t2,t3,t4,t5⟩:=HM1.out.tp i (by omega)
   have HTP:=hid_intro t4
   have HSS:=hid_intro (fun j hj=>HS.out j i hj (by omega))
   have hgl:=HM1.out.pt.lt
   have hlo:=HM1.out.lo
   have hhi:=HM1.out.hi
   have hli:i<n:=by omega
   have HHH:=hid_intro (show (∀j,j<n→i*6≠j*6+5)∧(∀j,j<n→i*6+1≠j*6+5)∧(∀j,j<n→i*6+2≠j*6+5)∧(∀j,j<n→i*6+3≠j*6+5)∧(∀j,j<n→i*6+4≠j*6+5) from ⟨hh0,hh1,hh2,hh3,hh4⟩)
   clear hh0 hh1 hh2 hh3 hh4 t4
   go_wp2_with fail
   refine (HTT.out _ _ _ _ (K+5) (by push_cast;omega) t5 (by omega) _ (pt_any (pt_any (pt_any (pt_any (pt_any HTP.out _ _ _) _ _ _) _ _ _) _ _ _) _ _ _)).mono ?_
   rintro e w2 ⟨rfl,hp2,_,hg2⟩
   have HM2:=hid_intro (MkMes.tier (((((HM1.out.put (i*6) _ HHH.out.1).put (i*6+1) _ HHH.out.2.1).put (i*6+2) _ HHH.out.2.2.1).put (i*6+3) _ HHH.out.2.2.2.1).put (i*6+4) _ HHH.out.2.2.2.2) hli hg2 hp2 HSS.out)
   have HO2:=hid_intro (Outs.grown (((((HO1.out.put g (i*6) _ hlo hhi).put g (i*6+1) _ hlo hhi).put g (i*6+2) _ hlo hhi).put g (i*6+3) _ hlo hhi).put g (i*6+4) _ hlo hhi) hg2 t1 t2)
   clear hp2 hg2 c0 c1 c2 c3 c4 c5 f0 f1 f2 f3 f4 HM1 HO1
   have hb2:K+5+2*ls i≤1+(i+1)*2097157:=by rw [Nat.add_mul];omega
   go_wp2_with fail
   go_roundw
   case rel=>exact ⟨i+1,K+5+2*ls i,by go_num,by go_num,by omega,by omega,hb2,HM2,HO2⟩
   case measure=>simp [intOf];omega
set_option maxRecDepth 100000 in
set_option maxHeartbeats 4000000 in
theorem markCrs (base top g n cap K0:Nat) (w:World) (hn:n≤1048576) (hK0:1≤K0) (hK:K0≤10000000000000) (hlo:base≤g) (hhi:g<top) (h0:Pt g (n*2) w) :
 Calls Tryz.prog 85 #[.slice (some ⟨g,0,none⟩) n cap,.int .i64 K0] w fun e w'=>∃K:Nat,e=.returned (.int .i64 K)∧1≤K∧K≤K0+n*2∧Outs base top w w':=by
 have HP:=hid_intro h0
 have HT:Hid (∀(z:Int) (K:Nat),z=K→1≤K→K≤20000000000000→∀w,Calls Tryz.prog 86 #[.int .i64 z] w fun e w'=>(∃T,e=.returned (.string T))∧Below w.heap.size w w'):=hid_intro (fun z K e h0 h w=>by subst e;exact mark_some K h0 (by omega) w)
 clear h0
 go_enter Tryz.func85,Tryz.ntmps85
 go_wp2_with fail
 go_loopw [5,1] (fun x z wr=>∃i K:Nat,x=.int .i64 (i:Int)∧z=.int .i64 (K:Int)∧i≤n∧1≤K∧K≤K0+i*2∧Hid (Pt g (n*2) wr)∧Hid (Outs base top w wr)) (fun x _ _=>n-(intOf x).toNat)
 case atStart=>exact ⟨0,K0,rfl,rfl,by omega,by omega,by omega,HP,hid_intro (Outs.refl _ _ _)⟩
 case round =>
  obtain ⟨i,K,rfl,rfl,hi,hK1,hK2,HP,HO⟩:=hrel
  by_cases hin:i=n
  ·subst hin
   go_wp2_with fail
   go_ret
   exact ⟨K,rfl,hK1,hK2,HO.out⟩
  ·have h1:(i:Int)<(n:Int):=by omega
   go_wp2_with fail
   refine (HT.out _ K rfl hK1 (by omega) _).mono ?_
   rintro e w1 ⟨⟨T,rfl⟩,hb⟩
   have HP1:=hid_intro (HP.out.below hb)
   have HO1:=hid_intro (HO.out.below hb)
   clear hb HP HO
   obtain ⟨v0,c0⟩:=HP1.out.has (i*2) (by omega)
   have f0:=HP1.out.free (i*2) (by omega)
   obtain ⟨v1,c1⟩:=HP1.out.has (i*2+1) (by omega)
   have f1:=HP1.out.free (i*2+1) (by omega)
   have hgl:=HP1.out.lt
   have HP2:=hid_intro ((HP1.out.set (i*2) (.string T)).set (i*2+1) (.int .i64 ((K:Int)+1)))
   have HO2:=hid_intro ((HO1.out.put g (i*2) (.string T) hlo hhi).put g (i*2+1) (.int .i64 ((K:Int)+1)) hlo hhi)
   clear HP1 HO1
   go_wp2_with fail
   go_roundw
   case rel=>exact ⟨i+1,K+2,by go_num,by go_num,by omega,by omega,by omega,HP2,HO2⟩
   case measure=>simp [intOf];omega
theorem new_mk {base top:Nat} {g:Nat} {bs:Nat→Nat} {n:Nat} {ms:List Me} {w:World} (h:NewMes base g bs n n ms w) (hS:∀i,i<n→(ms.getD i Me.zero).Small) (ht:∀i,i<n→bs i<top) (hg:g<top):MkMes base top g bs (fun i=>(ms.getD i Me.zero).ts.length) n w:=by
 refine ⟨h.lo,hg,h.pt,fun i hi=>?_,fun i hi=>?_⟩
 ·have h1:=(h.inc i hi).1
  have h2:=h.lo
  exact ⟨by omega,ht i hi,by omega,(h.cel i hi).2.2,(hS i hi).2⟩
 ·exact (h.cel i hi).1.2.2.2.2.2
theorem Outs.wide {base base' top top':Nat} {w w':World} (h:Outs base top w w') (h1:base'≤base) (h2:top≤top'):Outs base' top' w w' :=
 ⟨h.os,h.tape,h.output,h.size,fun k hk hb=>h.block k hk (by omega)⟩
theorem Outs.pt {base top g m:Nat} {w w':World} (h:Outs base top w w') (hp:Pt g m w) (hg:g<base∨top≤g):Pt g m w':=by
 have e2:=h.block g hp.lt hg
 exact ⟨by have:=h.size;have:=hp.lt;omega,fun o ho=>by obtain ⟨v,hv⟩:=hp.has o ho;exact ⟨v,(World.cell?_of_block (a:=⟨g,o,none⟩) e2).trans hv⟩,fun o ho=>(World.frozen?_of_block (a:=⟨g,o,none⟩) e2).trans (hp.free o ho)⟩
theorem Outs.blk {base top b:Nat} {cs:List Value} {w w':World} (h:Outs base top w w') (hp:Blk b cs w) (hg:b<base∨top≤b):Blk b cs w' :=
 ⟨by have:=h.size;have:=hp.1;omega,fun i hi=>(World.cell?_of_block (a:=⟨b,i,none⟩) (h.block b hp.1 hg)).trans (hp.2 i hi)⟩
set_option maxHeartbeats 4000000 in
theorem markCa (base:Nat) (v:Value) (c:Ca) (w:World) (top:Nat) (hS:c.Small) (h:NewCa base v c w) (ht:∀(hh:Nat) (x:Value),v=.agg #[x,.slice (some ⟨hh,0,none⟩) c.cs.length c.cs.length]→hh<top) :
 Calls Tryz.prog 36 #[v,.int .i64 1] w fun e w'=>∃K:Nat,e=.returned (.int .i64 K)∧1≤K∧K≤20000000000000∧Outs base top w w':=by
 obtain ⟨g,bs,hh,rfl,hN,hgh,hbh,hC,hP⟩:=h
 have hht:hh<top:=ht hh _ rfl
 have hhw:hh<w.heap.size:=hP.lt
 clear ht
 have hap:∀i j,i<c.ms.length→j<c.ms.length→bs i=bs j→i=j:=fun i j hi hj e=>by
  rcases (show i<j∨i=j∨j<i by omega) with q|q|q
  ·have:=(hN.inc j hj).2 i q;omega
  ·exact q
  ·have:=(hN.inc i hi).2 j q;omega
 have HMM:=hid_intro (fun W (hW:Below w.heap.size w W)=>markMes base hh g bs _ c.ms.length c.ms.length W hS.ml (new_mk (hN.below hW) hS.ms hbh hgh) (fun i j hi hj e=>by rw [hap i j hi hj e]))
 have HCC:=hid_intro (fun W K (h1:1≤K) (h2:K≤10000000000000) (hp:Pt hh (c.cs.length*2) W)=>markCrs hh top hh c.cs.length c.cs.length K W hS.cl h1 h2 (Nat.le_refl _) hht hp)
 have HP:=hid_intro hP
 have hlo:=hN.lo
 have HX0:Hid (Blk w.heap.size [.slice (some ⟨g,0,none⟩) c.ms.length c.ms.length,.slice (some ⟨hh,0,none⟩) c.cs.length c.cs.length] (w.alloc (.cells #[.slice (some ⟨g,0,none⟩) c.ms.length c.ms.length,.slice (some ⟨hh,0,none⟩) c.cs.length c.cs.length] 40))):=hid_intro (Blk.new w _ _)
 have hal:∀o,Below w.heap.size w (w.alloc o):=fun o=>(Below.refl _ _).alloc (Nat.le_refl _) _
 have HAL:=hid_intro hal
 have HCL:Hid (c.cs.length≤1048576):=hid_intro hS.cl
 clear hN hbh hC hP hap hal hS
 generalize c.ms.length=ml at *
 generalize c.cs.length=cl at *
 go_enter Tryz.func36,Tryz.ntmps36
 go_wp2_with fail
 refine (HMM.out _ (HAL.out _)).mono ?_
 rintro e w1 ⟨K,rfl,hK1,hK2,_,ho1⟩
 have HX1:=hid_intro (ho1.blk HX0.out (by omega))
 have HP1:=hid_intro (ho1.pt (HP.out.below (HAL.out _)) (by omega))
 have HO1:Hid (Outs base top w w1):=hid_intro (((Outs.refl base top w).below (HAL.out _)).trans (ho1.wide (Nat.le_refl _) (by omega)))
 clear ho1
 have x1:w1.cell? ⟨w.heap.size,1,none⟩=some (.slice (some ⟨hh,0,none⟩) cl cl):=HX1.out.2 1 (by simp)
 have xl:=HX1.out.1
 go_wp2_with fail
 refine (HCC.out _ K hK1 hK2 HP1.out).mono ?_
 rintro e w2 ⟨K2,rfl,hk3,hk4,ho2⟩
 have HO2:=hid_intro (HO1.out.trans (ho2.wide (by omega) (Nat.le_refl _)))
 clear ho2
 go_wp2_with fail
 go_ret
 exact ⟨K2,rfl,hk3,by have:=HCL.out;omega,HO2.out⟩
end CatR
end Go.Proofs.YtmalfhhkjdkadaaGreatDoor
