/-
  What a right meter costs: the program's side. The condition: the program's own error stands in its variable, the meter is right, so much can be rated.
  Rate and RateBetween: the program's side. The condition: the program's own error stands in its variable.
  'copy' between rows of things of k cells each, and such a copy as one step of a walk. No condition.
  A meter laid in new memory, the program's copyMeter. The conditions: 1 to 5 tiers, a name of at most 1048576 bytes.
  The order of texts, what a right catalog is, and a map of meters by their names, as read. No condition.
-/
import Derived.Laws.CopyOwn
import Derived.Lib.AppendZerosOnto
import Derived.Lib.Overlaps
import Derived.Laws.NewBlocks
import Derived.Deep.RegionLaw
import Derived.Lib.SliceRun
import Derived.Maps.OwnSet
import Derived.Test.YtcilbmhkhllmjaaGreatDoorF18
namespace Go.Proofs.YtcilbmhkhllmjaaGreatDoor
open Go.ChangeShapes Go.WideShapes Go.ChangeAt Go.RowKit
set_option linter.unusedVariables false
namespace CatR
open ClampR (clamp)
open FixR (In Thrown product_in product_over out)
theorem in_small {a:Int} (h:0≤a∧a≤1000000000000):In a:=by unfold In;omega
theorem part_w {a b:Int} (h:-9000000000000000000≤a-b∧a-b≤9000000000000000000):wrap64 (a-b)=a-b:=by unfold wrap64;omega
theorem sum_w {a b:Int} (h:0≤a+b∧a+b≤9000000000000000000):wrap64 (a+b)=a+b:=by unfold wrap64;omega
def May (v:Int) (e:Ending):Prop:=e=.returned (.int .i64 v)∨(Thrown e∧1000000000000000<v)
set_option maxRecDepth 100000 in
set_option maxHeartbeats 4000000 in
theorem impl_parts (v:Value) (m:Me) (n:Int) (w:World) (hL:FixR.Laid w) (hR:TRight m.ts) (hn:0≤n∧n≤1000000000000) (hM:IsMe v m w) :
 Calls Tryz.prog 159 #[v,.int .i64 n] w fun e w'=>May (ps m.ts n m.ts.length) e∧Below w.heap.size w w':=by
 obtain ⟨ta,tc,rfl,hT⟩:=hM
 have HB0:Hid (Below w.heap.size w (w.alloc (.cells #[.string m.n,.int .i64 m.g,.bool m.wh,.int .i64 m.f,.int .i64 m.l,.slice ta m.ts.length tc] 136))):=H_ ((Below.refl _ _).alloc (Nat.le_refl _) _)
 have HT:=H_ hT
 have HL:=H_ hL
 have HR:=H_ hR
 have HN:=H_ hn
 obtain ⟨nm,g,wh,f,l,ts⟩:=m
 simp only at *
 have hz:=hT.1
 obtain ⟨len,hl⟩:∃len,len=ts.length:=⟨_,rfl⟩
 have HZ:=H_ hl
 rw [←hl] at HT HB0 ⊢
 have h5:len≤5:=by have:=hR.2.1;omega
 clear hT hL hR hn hz hl
 go_enter Tryz.func159,Tryz.ntmps159
 go_wp2_with fail
 go_loopw [5,6,13] (fun x y z wr=>∃k:Nat,k≤len∧x=.int .i64 (ps ts n k)∧y=.int .i64 (tA ts k)∧z=.int .i64 k∧Hid (Below w.heap.size w wr)) (fun x y z _=>len-(intOf z).toNat)
 case atStart=>exact ⟨0,by omega,rfl,rfl,rfl,HB0⟩
 case round =>
  obtain ⟨k,hk,rfl,rfl,rfl,HB⟩:=hrel
  by_cases hlt:k<len
  ·have hlt2:(k:Int)<(len:Int):=by omega
   obtain ⟨b,off,rfl,hbl,d0,d1⟩:=tis_at (HT.out.below HB.out) k hlt
   have c0:wr.cell? ⟨b,off+k*2,none⟩=some (.int .i64 (tU ts k)):=d0
   have c1:wr.cell? ⟨b,off+k*2+1,none⟩=some (.int .i64 (tP ts k)):=d1
   clear d0 d1
   have HK:Hid (k<ts.length):=H_ (by have:=HZ.out;omega)
   have HPB:=H_ (part_bd HR.out HN.out.1 k HK.out)
   have HCL:=H_ (fun w=>ClampR.impl_any n (tA ts k) (tU ts k) w)
   have hw1:wrap64 (clamp n (tA ts k) (tU ts k)-tA ts k)=part ts n k:=by
    have:=HPB.out
    unfold part at *
    exact part_w (by omega)
   have HS1:Hid (ps ts n (k+1)=ps ts n k+part ts n k*tP ts k):=rfl
   have HSB:=H_ (ps_all HR.out HN.out (k+1) HK.out)
   have HSM:=H_ (ps_mono HR.out HN.out.1 ts.length (k+1) (Nat.le_refl _) HK.out)
   have HPI:=H_ (product_in (part ts n k) (tP ts k) (in_small ⟨HPB.out.1,HPB.out.2.1⟩) (in_small (by have:=pr_bd HR.out k HK.out;omega)))
   have HPO:=H_ (fun w=>product_over (part ts n k) (tP ts k) (in_small ⟨HPB.out.1,HPB.out.2.1⟩) (in_small (by have:=pr_bd HR.out k HK.out;omega)) (w:=w))
   have HPS:=H_ (ps_all HR.out HN.out k (by have:=HK.out;omega)).1
   have HPP:=H_ (mul_bd HPB.out.1 (pr_bd HR.out k HK.out)).1
   have HUA:Hid (tA ts (k+1)=tU ts k):=rfl
   have hw2:wrap64 (ps ts n k+part ts n k*tP ts k)=ps ts n (k+1):=by
    rw [HS1.out] at HSB ⊢
    exact sum_w (by have:=HSB.out;omega)
   have HIN:Hid (In (part ts n k*tP ts k)∨¬In (part ts n k*tP ts k)):=H_ (by unfold In;omega)
   have HOV:Hid (¬In (part ts n k*tP ts k)→1000000000000000<ps ts n ts.length):=H_ (fun h=>by
    have:=HS1.out;have:=HSM.out;have:=HPS.out;have:=HPP.out
    unfold In at h
    omega)
   generalize part ts n k*tP ts k=V at *
   generalize part ts n k=Q at *
   generalize clamp n (tA ts k) (tU ts k)=C at *
   obtain ⟨S1,hS1⟩:∃S1,S1=ps ts n (k+1):=⟨_,rfl⟩
   rw [←hS1] at hw2
   have HS2:=H_ hS1
   clear hS1
   generalize ps ts n k=S0 at *
   generalize tA ts k=A at *
   generalize tU ts k=U at *
   generalize tP ts k=P at *
   rw [←HZ.out] at HOV
   have HAl:=H_ (fun o=>HB.out.alloc HB.out.size o)
   have HLA:=H_ (fun o=>HL.out.below (HAl.out o))
   clear HPB HSB HSM HPS HPP HS1
   rcases HIN.out with hin|hin
   ·have HPX:=H_ (fun w=>HPI.out hin w)
    go_wp2_with (first|(go_at_call 67;refine (HCL.out _).mono ?_;rintro e w3 ⟨rfl,rfl⟩)|(go_at_call 192;refine (HPX.out _).mono ?_;rintro e w3 ⟨rfl,rfl⟩))
    go_roundw
    case rel=>exact ⟨k+1,by omega,by rw [←HS2.out];first|rfl|rw [hw2],by rw [HUA.out],by go_num,H_ (HAl.out _)⟩
    case measure=>simp [intOf];omega
   ·have HPX:=H_ (fun w hl=>HPO.out w hin hl)
    have HF:=H_ (HOV.out hin)
    go_wp2_with (first|(go_at_call 67;refine (HCL.out _).mono ?_;rintro e w3 ⟨rfl,rfl⟩)|(go_at_call 192;refine (HPX.out _ (HLA.out _)).mono ?_;rintro e w3 ⟨⟨u,x,rfl⟩,rfl⟩))
    exact ⟨rfl,.inr ⟨⟨u,x,rfl⟩,HF.out⟩,HAl.out _⟩
  ·have hlt2:¬(k:Int)<(len:Int):=by omega
   obtain rfl:k=len:=by omega
   go_wp2_with fail
   go_ret
   exact ⟨.inl rfl,HB.out⟩
set_option maxRecDepth 100000 in
set_option maxHeartbeats 4000000 in
theorem impl_one (v:Value) (m:Me) (n:Int) (w:World) (hL:FixR.Laid w) (hR:TRight m.ts) (hn:0≤n∧n≤1000000000000) (hM:IsMe v m w) :
 Calls Tryz.prog 158 #[v,.int .i64 n] w fun e w'=>May (wc m.ts n) e∧Below w.heap.size w w':=by
 obtain ⟨ta,tc,rfl,hT⟩:=hM
 obtain ⟨nm,g,wh,f,l,ts⟩:=m
 simp only at *
 have HB0:Hid (Below w.heap.size w (w.alloc (.cells #[.string nm,.int .i64 g,.bool wh,.int .i64 f,.int .i64 l,.slice ta ts.length tc] 136))):=H_ ((Below.refl _ _).alloc (Nat.le_refl _) _)
 have HK0:Hid (Blk w.heap.size [.string nm,.int .i64 g,.bool wh,.int .i64 f,.int .i64 l,.slice ta ts.length tc] (w.alloc (.cells #[.string nm,.int .i64 g,.bool wh,.int .i64 f,.int .i64 l,.slice ta ts.length tc] 136))):=H_ (Blk.new w _ _)
 have HT:=H_ hT
 have HL:=H_ hL
 have HR:=H_ hR
 have HN:=H_ hn
 have hz:=hT.1
 obtain ⟨len,hl⟩:∃len,len=ts.length:=⟨_,rfl⟩
 have HZ:=H_ hl
 rw [←hl] at HT HB0 HK0 ⊢
 have h5:len≤5:=by have:=hR.2.1;omega
 have h1:1≤len:=by have:=hR.1;omega
 clear hT hL hR hn hz hl
 go_enter Tryz.func158,Tryz.ntmps158
 go_wp2_with fail
 go_loopw [5] (fun z wr=>∃k:Nat,k<len∧z=.int .i64 k∧Hid (∀i,i<k→tU ts i<n)∧Hid (Below w.heap.size w wr)∧Hid (Blk w.heap.size [.string nm,.int .i64 g,.bool wh,.int .i64 f,.int .i64 l,.slice ta len tc] wr)) (fun z _=>len-(intOf z).toNat)
 case atStart=>exact ⟨0,by omega,rfl,H_ (fun i hi=>absurd hi (by omega)),HB0,HK0⟩
 case round =>
  obtain ⟨k,hlt,rfl,HA,HB,HK⟩:=hrel
  have hlt2:(k:Int)<(len:Int):=by omega
  obtain ⟨b,off,rfl,hbl,d0,d1⟩:=tis_at (HT.out.below HB.out) k hlt
  have c0:wr.cell? ⟨b,off+k*2,none⟩=some (.int .i64 (tU ts k)):=d0
  have c1:wr.cell? ⟨b,off+k*2+1,none⟩=some (.int .i64 (tP ts k)):=d1
  have c5:wr.cell? ⟨w.heap.size,5,none⟩=some (.slice (some ⟨b,off,none⟩) len tc):=HK.out.2 5 (by simp)
  have hbl5:=HK.out.1
  clear d0 d1
  by_cases hq:tU ts k<n
  ·have HA1:Hid (∀i,i<k+1→tU ts i<n):=H_ (fun i hi=>by
    by_cases e:i=k
    ·subst e;exact hq
    ·exact HA.out i (by omega))
   have HK1:Hid (k+1<len):=H_ (by have:=not_all HR.out HN.out.2 (k:=k+1) (by have:=HZ.out;omega) HA1.out;have:=HZ.out;omega)
   generalize tU ts k=U at *
   go_wp2_with fail
   go_roundw
   case rel=>exact ⟨k+1,HK1.out,by go_num,HA1,HB,HK⟩
   case measure=>simp [intOf];omega
  ·have HW:=H_ (wc_at (ts:=ts) (n:=n) (k:=k) ⟨by have:=HZ.out;omega,HA.out,by omega⟩)
   have HP:=H_ (pr_bd HR.out k (by have:=HZ.out;omega))
   have HPI:=H_ (product_in n (tP ts k) (in_small HN.out) (in_small (by have:=HP.out;omega)))
   have HPO:=H_ (fun w=>product_over n (tP ts k) (in_small HN.out) (in_small (by have:=HP.out;omega)) (w:=w))
   have HIN:Hid (In (n*tP ts k)∨¬In (n*tP ts k)):=H_ (by unfold In;omega)
   have HOV:Hid (¬In (n*tP ts k)→1000000000000000<wc ts n):=H_ (fun h=>by
    have:=(mul_bd HN.out.1 HP.out).1
    rw [HW.out]
    unfold In at h
    omega)
   have HL1:=H_ (HL.out.below HB.out)
   generalize n*tP ts k=V at *
   generalize tU ts k=U at *
   generalize tP ts k=P at *
   rcases HIN.out with hin|hin
   ·have HPX:=H_ (fun w=>HPI.out hin w)
    go_wp2_with (go_at_call 192;refine (HPX.out _).mono ?_;rintro e w3 ⟨rfl,rfl⟩)
    go_ret
    exact ⟨.inl (ret_int HW.out.symm),HB.out⟩
   ·have HPX:=H_ (fun w hl=>HPO.out w hin hl)
    have HF:=H_ (HOV.out hin)
    go_wp2_with (go_at_call 192;refine (HPX.out _ HL1.out).mono ?_;rintro e w3 ⟨⟨u,x,rfl⟩,rfl⟩)
    exact ⟨rfl,.inr ⟨⟨u,x,rfl⟩,HF.out⟩,HB.out⟩
theorem used_w {a b:Int} (ha:0≤a∧a≤1000000000000) (hb:0≤b∧b≤1000000000):wrap64 (a-b)=a-b:=by unfold wrap64;omega
theorem mx_cases (a b:Int):(a<b∧¬b<a∧¬b≤a∧mx a b=b)∨(¬a<b∧b≤a∧mx a b=a):=by
 unfold mx
 by_cases h:a<b
 ·exact .inl ⟨h,by omega,by omega,if_pos h⟩
 ·exact .inr ⟨h,by omega,if_neg h⟩
set_option maxRecDepth 100000 in
set_option maxHeartbeats 4000000 in
theorem impl_micros (v:Value) (m:Me) (u:Int) (w:World) (hL:FixR.Laid w) (hR:MRight m) (hu:0≤u∧u≤1000000000000) (hM:IsMe v m w) :
 Calls Tryz.prog 129 #[v,.int .i64 u] w fun e w'=>May (rt m u) e∧Below w.heap.size w w':=by
 obtain ⟨ta,tc,rfl,hT⟩:=hM
 have HAB:=H_ (amt_bd hR.2.2.1 hu)
 have HRB:=H_ (rt_bd hR hu)
 have H1:Hid (∀W,Below w.heap.size w W→Calls Tryz.prog 158 #[.agg #[.string m.n,.int .i64 m.g,.bool m.wh,.int .i64 m.f,.int .i64 m.l,.slice ta m.ts.length tc],.int .i64 (amt m u)] W fun e w'=>May (wc m.ts (amt m u)) e∧Below W.heap.size W w'):=H_ (fun W hW=>impl_one _ m _ W (hL.below hW) hR.2.2.2.2 HAB.out ⟨ta,tc,rfl,hT.below hW⟩)
 have H2:Hid (∀W,Below w.heap.size w W→Calls Tryz.prog 159 #[.agg #[.string m.n,.int .i64 m.g,.bool m.wh,.int .i64 m.f,.int .i64 m.l,.slice ta m.ts.length tc],.int .i64 (amt m u)] W fun e w'=>May (ps m.ts (amt m u) m.ts.length) e∧Below W.heap.size W w'):=H_ (fun W hW=>impl_parts _ m _ W (hL.below hW) hR.2.2.2.2 HAB.out ⟨ta,tc,rfl,hT.below hW⟩)
 have hw:=used_w hu hR.2.2.1
 have hmx:=mx_cases (u-m.f) 0
 have HRT:Hid (rt m u=if 0<u then mx (bs m u) m.l else bs m u):=rfl
 have HBS:Hid (bs m u=bif m.wh then wc m.ts (amt m u) else ps m.ts (amt m u) m.ts.length):=rfl
 have HAM:Hid (amt m u=mx (u-m.f) 0):=rfl
 have HB0:Hid (Below w.heap.size w (w.alloc (.cells #[.string m.n,.int .i64 m.g,.bool m.wh,.int .i64 m.f,.int .i64 m.l,.slice ta m.ts.length tc] 136))):=H_ ((Below.refl _ _).alloc (Nat.le_refl _) _)
 generalize rt m u=R at *
 generalize bs m u=B at *
 obtain ⟨nm,g,wh,f,l,ts⟩:=m
 simp only at *
 generalize amt ⟨nm,g,wh,f,l,ts⟩ u=N at *
 generalize mx (u-f) 0=N2 at *
 generalize wc ts N=WC at *
 generalize ps ts N ts.length=PC at *
 generalize ts.length=tl at *
 obtain ⟨X,hX⟩:∃X,X=u-f:=⟨_,rfl⟩
 rw [←hX] at hmx hw
 have hw:wrap64 (u-f)=X:=by rw [←hX];exact hw
 clear hT hL hR hu hX
 have HK0:Hid (Blk w.heap.size [.string nm,.int .i64 g,.bool wh,.int .i64 f,.int .i64 l,.slice ta tl tc] (w.alloc (.cells #[.string nm,.int .i64 g,.bool wh,.int .i64 f,.int .i64 l,.slice ta tl tc] 136))):=H_ (Blk.new w _ _)
 cases wh
 ·obtain rfl:B=PC:=HBS.out
  rcases hmx with ⟨m1,m2,m3,m4⟩|⟨m1,m2,m4⟩
  all_goals
   obtain rfl:=HAM.out
   subst m4
   go_enter Tryz.func129,Tryz.ntmps129
   go_wp2_with fail
   refine (H2.out _ HB0.out).mono ?_
   rintro e w1 ⟨hm,hb1⟩
   have HK1:=H_ (HK0.out.below hb1)
   have HB1:=H_ (HB0.out.trans (hb1.mono HB0.out.size))
   have hl1:=HK1.out.1
   have c4:w1.cell? ⟨w.heap.size,4,none⟩=some (.int .i64 l):=HK1.out.2 4 (by simp)
   clear hb1
   rcases hm with rfl|⟨⟨t,x,rfl⟩,hov⟩
   ·by_cases hu0:0<u
    ·rw [if_pos hu0] at HRT
     rcases mx_cases B l with ⟨q1,q2,q3,q4⟩|⟨q1,q2,q4⟩
     all_goals
      rw [q4] at HRT
      go_wp2_with fail
      go_ret
      exact ⟨.inl (ret_int HRT.out.symm),HB1.out⟩
    ·rw [if_neg hu0] at HRT
     go_wp2_with fail
     go_ret
     exact ⟨.inl (ret_int HRT.out.symm),HB1.out⟩
   ·have HF:Hid (1000000000000000<R):=H_ (by have:=HRB.out.2.2;omega)
    try go_wp2_with fail
    exact ⟨rfl,.inr ⟨⟨t,x,rfl⟩,HF.out⟩,HB1.out⟩
 ·obtain rfl:B=WC:=HBS.out
  rcases hmx with ⟨m1,m2,m3,m4⟩|⟨m1,m2,m4⟩
  all_goals
   obtain rfl:=HAM.out
   subst m4
   go_enter Tryz.func129,Tryz.ntmps129
   go_wp2_with fail
   refine (H1.out _ HB0.out).mono ?_
   rintro e w1 ⟨hm,hb1⟩
   have HK1:=H_ (HK0.out.below hb1)
   have HB1:=H_ (HB0.out.trans (hb1.mono HB0.out.size))
   have hl1:=HK1.out.1
   have c4:w1.cell? ⟨w.heap.size,4,none⟩=some (.int .i64 l):=HK1.out.2 4 (by simp)
   clear hb1
   rcases hm with rfl|⟨⟨t,x,rfl⟩,hov⟩
   ·by_cases hu0:0<u
    ·rw [if_pos hu0] at HRT
     rcases mx_cases B l with ⟨q1,q2,q3,q4⟩|⟨q1,q2,q4⟩
     all_goals
      rw [q4] at HRT
      go_wp2_with fail
      go_ret
      exact ⟨.inl (ret_int HRT.out.symm),HB1.out⟩
    ·rw [if_neg hu0] at HRT
     go_wp2_with fail
     go_ret
     exact ⟨.inl (ret_int HRT.out.symm),HB1.out⟩
   ·have HF:Hid (1000000000000000<R):=H_ (by have:=HRB.out.2.2;omega)
    try go_wp2_with fail
    exact ⟨rfl,.inr ⟨⟨t,x,rfl⟩,HF.out⟩,HB1.out⟩
end CatR
namespace CatR
open FixR (In Thrown out reckoned_ok reckoned_over)
theorem rO_in {m:Me} {u:Int} (h:rt m u≤1000000000000000):rO m u=(rt m u,0):=if_pos h
theorem rO_over {m:Me} {u:Int} (h:¬rt m u≤1000000000000000):rO m u=(0,12):=if_neg h
set_option maxRecDepth 100000 in
set_option maxHeartbeats 4000000 in
theorem one_call (v:Value) (m:Me) (u:Int) (p q:Nat) (w:World) (hL:FixR.Laid w) (hR:MRight m) (hu:0≤u∧u≤1000000000000) (hM:IsMe v m w) (hv:∃cs:List Value,v=.agg cs.toArray∧cs.length=6∧Blk p cs w) (hq:w.cell? ⟨q,0,none⟩=some (.int .i64 u)) (hql:q<w.heap.size) :
 Calls Tryz.prog 128 #[.pointer (some ⟨p,0,none⟩),.pointer (some ⟨q,0,none⟩)] w fun e w'=>May (rt m u) e∧Below w.heap.size w w':=by
 have H:=H_ (impl_micros v m u w hL hR hu hM)
 obtain ⟨ta,tc,rfl,hT⟩:=hM
 obtain ⟨cs,hcs,hlen,hB⟩:=hv
 obtain rfl:cs=[.string m.n,.int .i64 m.g,.bool m.wh,.int .i64 m.f,.int .i64 m.l,.slice ta m.ts.length tc]:=by
  have:=congrArg (fun v=>match v with | .agg a=>a.toList|_=>[]) hcs
  simpa using this.symm
 have hl:=hB.1
 have c0:w.cell? ⟨p,0,none⟩=some (.string m.n):=hB.2 0 (by simp)
 have c1:w.cell? ⟨p,1,none⟩=some (.int .i64 m.g):=hB.2 1 (by simp)
 have c2:w.cell? ⟨p,2,none⟩=some (.bool m.wh):=hB.2 2 (by simp)
 have c3:w.cell? ⟨p,3,none⟩=some (.int .i64 m.f):=hB.2 3 (by simp)
 have c4:w.cell? ⟨p,4,none⟩=some (.int .i64 m.l):=hB.2 4 (by simp)
 have c5:w.cell? ⟨p,5,none⟩=some (.slice ta m.ts.length tc):=hB.2 5 (by simp)
 clear hT hL hR hu hcs hlen hB
 generalize rt m u=R at *
 obtain ⟨nm,g,wh,f,l,ts⟩:=m
 simp only at *
 generalize ts.length=tl at *
 go_enter Tryz.func128,Tryz.ntmps128
 go_wp2_with fail
 refine (H.out).mono ?_
 rintro e w1 ⟨hm,hb1⟩
 have HB:=H_ hb1
 clear hb1
 rcases hm with rfl|⟨⟨t,x,rfl⟩,hov⟩
 ·go_wp2_with fail
  go_ret
  exact ⟨.inl rfl,HB.out⟩
 ·try go_wp2_with fail
  exact ⟨rfl,.inr ⟨⟨t,x,rfl⟩,hov⟩,HB.out⟩
set_option maxRecDepth 100000 in
set_option maxHeartbeats 4000000 in
theorem impl_rate (v:Value) (m:Me) (u:Int) (w:World) (hL:FixR.Laid w) (hR:MRight m) (hu:0≤u∧u≤1000000000000) (hM:IsMe v m w) :
 Calls Tryz.prog 95 #[v,.int .i64 u] w fun e w'=>e=.returned (out (rO m u).1 (rO m u).2)∧Below w.heap.size w w':=by
 have HRB:=H_ (rt_bd hR hu)
 have HM0:=H_ hM
 obtain ⟨ta,tc,rfl,hT⟩:=hM
 have hmf:∀(fn:Fn) (first cap:Array Value) (w:World),(Instr.makeFunc fn first cap).run Tryz.prog w=.ok (.func fn first cap) w:=fun _ _ _ _=>rfl
 obtain ⟨W,hW⟩:∃W,W=((w.alloc (Obj.cells #[.string m.n,.int .i64 m.g,.bool m.wh,.int .i64 m.f,.int .i64 m.l,.slice ta m.ts.length tc] 136)).alloc (Obj.cells #[.int .i64 u] 2)).alloc (Obj.cells #[.int .i64 0,.int .i64 0,.int .i64 0] 125):=⟨_,rfl⟩
 have hsz:W.heap.size=w.heap.size+3:=by rw [hW];simp
 have hb1:Below w.heap.size w W:=by rw [hW];exact (((Below.refl _ _).alloc (by simp;try omega) _).alloc (by simp;try omega) _).alloc (by simp;try omega) _
 have hB:Blk w.heap.size [.string m.n,.int .i64 m.g,.bool m.wh,.int .i64 m.f,.int .i64 m.l,.slice ta m.ts.length tc] W:=by rw [hW];exact ((Blk.new w _ _).alloc _).alloc _
 have p1:W.cell? ⟨w.heap.size+1,0,none⟩=some (.int .i64 u):=by rw [hW];simp [go_sem]
 have c0:W.cell? ⟨w.heap.size+1+1,0,none⟩=some (.int .i64 0):=by rw [hW];simp [go_sem]
 have z0:W.frozen? ⟨w.heap.size+1+1,0,none⟩=false:=by rw [hW];simp [go_sem]
 have c1:W.cell? ⟨w.heap.size+1+1,1,none⟩=some (.int .i64 0):=by rw [hW];simp [go_sem]
 have z1:W.frozen? ⟨w.heap.size+1+1,1,none⟩=false:=by rw [hW];simp [go_sem]
 have c2:W.cell? ⟨w.heap.size+1+1,2,none⟩=some (.int .i64 0):=by rw [hW];simp [go_sem]
 have z2:W.frozen? ⟨w.heap.size+1+1,2,none⟩=false:=by rw [hW];simp [go_sem]
 have hf:∀w1,Below W.heap.size W w1→Calls Tryz.prog 128 #[.pointer (some ⟨w.heap.size,0,none⟩),.pointer (some ⟨w.heap.size+1,0,none⟩)] w1 fun e w2=>May (rt m u) e∧Below w1.heap.size w1 w2:=by
  intro w1 hb
  have q1:=hb.cell (p:=⟨w.heap.size+1,0,none⟩) (by simp only;omega)
  rw [p1] at q1
  exact one_call _ m u _ _ w1 ((hL.below hb1).below hb) hR hu (HM0.out.below (hb1.trans (hb.mono (by omega)))) ⟨_,rfl,rfl,hB.below hb⟩ q1 (by have:=hb.size;omega)
 have he:∀args w,(callFunc 128 args).run Tryz.prog w=.ok (.enter 128 args) w:=fun args w=>by simp [go_sem]
 have hr:Calls Tryz.prog 127 #[.func (.func 128) #[] #[.pointer (some ⟨w.heap.size,0,none⟩),.pointer (some ⟨w.heap.size+1,0,none⟩)]] W fun e w'=>e=.returned (out (rO m u).1 (rO m u).2)∧Below W.heap.size W w':=by
  by_cases hin:rt m u≤1000000000000000
  ·rw [rO_in hin]
   refine reckoned_ok 128 _ _ (by unfold In;have:=HRB.out;omega) W (fun w1 hb=>(hf w1 hb).mono fun e w2 h=>⟨?_,h.2⟩) he
   rcases h.1 with h1|⟨_,h1⟩
   ·exact h1
   ·omega
  ·rw [rO_over hin]
   refine reckoned_over 128 _ W (hL.below hb1) (fun w1 hb=>(hf w1 hb).mono fun e w2 h=>⟨?_,h.2⟩) he
   rcases h.1 with h1|⟨h1,_⟩
   ·exact .inl ⟨_,h1,by unfold In;omega⟩
   ·exact .inr h1
 have HW:=H_ hW
 have HB1:=H_ hb1
 clear hf he hW hb1 hL p1 hB HM0 hR hu HRB hT
 generalize (rO m u).1=V at *
 generalize (rO m u).2=C at *
 obtain ⟨nm,g,wh,f,l,ts⟩:=m
 simp only at *
 generalize ts.length=tl at *
 go_enter Tryz.func95,Tryz.ntmps95
 go_wp2_with fail
 rw [←HW.out]
 refine hr.mono ?_
 rintro e w2 ⟨rfl,hb⟩
 have d0:=hb.cell (p:=⟨w.heap.size+1+1,0,none⟩) (by simp only;omega)
 have y0:=hb.frozen (p:=⟨w.heap.size+1+1,0,none⟩) (by simp only;omega)
 rw [c0] at d0;rw [z0] at y0
 have d1:=hb.cell (p:=⟨w.heap.size+1+1,1,none⟩) (by simp only;omega)
 have y1:=hb.frozen (p:=⟨w.heap.size+1+1,1,none⟩) (by simp only;omega)
 rw [c1] at d1;rw [z1] at y1
 have d2:=hb.cell (p:=⟨w.heap.size+1+1,2,none⟩) (by simp only;omega)
 have y2:=hb.frozen (p:=⟨w.heap.size+1+1,2,none⟩) (by simp only;omega)
 rw [c2] at d2;rw [z2] at y2
 have HB:=H_ (HB1.out.trans (hb.mono (by omega)))
 clear hb c0 c1 c2 z0 z1 z2 hr HW HB1 hmf
 unfold out
 go_wp2
 refine bodyPost_ret (v:=out V C) (by simp [out,results,Tryz.results95,go_sem,d0,d1,d2]) rfl ⟨rfl,?_⟩
 exact ((HB.out.setCell (by simp only;omega) _).setCell (by simp only;omega) _).setCell (by simp only;omega) _
end CatR
namespace RowG
section
variable {P:Program}
end
end RowG
namespace CatR
open EvtR (Pt)
def Ti.cellz (t:Ti):List Value:=[.int .i64 t.u,.int .i64 t.p]
theorem Ti.lenz (t:Ti):t.cellz.length=2:=rfl
def tisC (ts:List Ti):List Value:=RowG.cellsAll Ti.cellz ts
theorem tisC_len (ts:List Ti):(tisC ts).length=ts.length*2:=RowG.cellsAll_len Ti.lenz ts
theorem tis_cells {b off:Nat} {ts:List Ti} {w:World} (h:Tis (some ⟨b,off,none⟩) ts.length ts w):∀j u,(tisC ts)[j]? = some u→w.cell? ⟨b,off+j,none⟩=some u:=by
 intro j u hj
 have hlt:=(List.getElem?_eq_some_iff.1 hj).1
 rw [tisC_len] at hlt
 have e:j=(j / 2)*2+j % 2:=by omega
 have hi:j / 2<ts.length:=by omega
 unfold tisC at hj
 rw [e,RowG.cellsAll_get (z:=Ti.zero) Ti.lenz ts (j / 2) (j % 2) hi (by omega)] at hj
 rcases h.2 with h0|⟨b',off',he,_,hc⟩
 ·omega
 ·simp only [Option.some.injEq,Addr.mk.injEq,and_true] at he
  obtain ⟨rfl,rfl⟩:=he
  obtain ⟨c0,c1⟩:=hc (j / 2) hi
  rcases (show j % 2=0∨j % 2=1 by omega) with q|q
  ·rw [q] at hj
   rw [show off+j=off+(j / 2)*2 by omega,c0]
   simpa [Ti.cellz] using hj
  ·rw [q] at hj
   rw [show off+j=off+(j / 2)*2+1 by omega,c1]
   simpa [Ti.cellz] using hj
theorem tisC_one (ts:List Ti):∀v∈tisC ts,v.oneCell'=true:=by
 intro v hv
 simp only [tisC,RowG.cellsAll,List.mem_flatMap,Ti.cellz,List.mem_cons,List.not_mem_nil,or_false] at hv
 obtain ⟨x,_,rfl|rfl⟩:=hv<;>rfl
theorem own_tisz {w:World} {base:Nat} {v:Value} {ts:List Ti} (h:w.ownsRow base 162 2 v ts.length (tisC ts)):∃ao cap,v=.slice ao ts.length cap∧Tis ao ts.length ts w∧(ts.length=0∨∃g,ao=some ⟨g,0,none⟩∧base≤g∧Pt g (ts.length*2) w):=by
 obtain ⟨ao,cap,hv,hm⟩:=RowG.own_made (z:=Ti.zero) Ti.lenz h
 refine ⟨ao,cap,hv,⟨rfl,?_⟩,hm.own⟩
 rcases hm.rws with h0|⟨b,off,e,hl,hc⟩
 ·exact .inl h0
 ·exact .inr ⟨b,off,e,hl,fun j hj=>⟨hc j hj 0 (by omega),hc j hj 1 (by omega)⟩⟩
set_option maxRecDepth 100000 in
set_option maxHeartbeats 4000000 in
theorem clone_tis (b off cap:Nat) (ts:List Ti) (w:World) (h1:1≤ts.length) (h5:ts.length≤5) (hI:Tis (some ⟨b,off,none⟩) ts.length ts w) :
 Calls Tryz.prog 151 #[.slice (some ⟨b,off,none⟩) ts.length cap] w fun e w'=>∃v,e=.returned v∧w'.ownsRow w.heap.size 162 2 v ts.length (tisC ts)∧Below w.heap.size w w':=by
 obtain ⟨i0,hi,hz0,hz1,hz2⟩:=info_parts infoT
 have HC:=H_ (tis_cells hI)
 have HL:=H_ (tisC_len ts)
 have H1:=H_ (tisC_one ts)
 generalize tisC ts=C at *
 generalize ts.length=len at *
 clear hI
 have hnil:=fun W=>Lib.run_eql_slice_nil (P:=Tryz.prog) W 115 162 (some ⟨b,off,none⟩) len cap 0 0 Tryz.underlying115
 have HE0:Hid ((w.alloc (.cells #[] 162)).ownsRow w.heap.size 162 2 (.slice (some ⟨w.heap.size,0,none⟩) 0 0) 0 []):=H_ (World.ownsRow_made w #[] 0 (Nat.le_refl _) (by unfold maxLen;omega) (by simp))
 have HN:Hid (∀j u,C[j]? = some u→(w.alloc (.cells #[] 162)).cell? ((⟨b,off,none⟩:Addr).add j)=some u):=H_ (fun j u hj=>by
  have h:=HC.out j u hj
  rw [Addr.add_lit]
  exact (((Below.refl w.heap.size w).alloc (Nat.le_refl _) _).cell (p:=⟨b,off+j,none⟩) (World.block_lt_of_cell? w ⟨b,off+j,none⟩ h)).trans h)
 go_enter Tryz.func151,Tryz.ntmps151
 go_wp2_with (at_builtin;refine wpList_append_own _ rfl _ _ 115 rfl w.heap.size 162 i0 (.agg #[.int .i64 0,.int .i64 0]) 2 16 Tryz.underlying115 hi hz0 hz1 hz2 rfl (by decide) _ _ _ rfl HE0.out ⟨b,off,none⟩ len cap C rfl HL.out HN.out H1.out (by unfold maxLen;omega) (by omega) (by simp) ?_)
 intro v1 w1 hown hgrow hne
 have HO:Hid (w1.ownsRow w.heap.size 162 2 v1 len C):=H_ (by first|exact hown|simpa using hown)
 have HB:Hid (Below w.heap.size w w1):=H_ (((Below.refl _ _).alloc (Nat.le_refl _) _).grown hgrow (by simp) (fun k e=>by simp [Value.ownBlock] at e;omega))
 clear hown hgrow hne
 go_wp2_with fail
 go_ret
 exact ⟨_,rfl,HO.out,HB.out⟩
theorem pt_new (w:World) (cs:List Value) (T:TypeId):Pt w.heap.size cs.length (w.alloc (.cells cs.toArray T)):=pt_row (heap_alloc_new w _) rfl
def ResM (w:World) (r:Me) (e:Ending) (w':World):Prop:=∃ta tc,e=.returned (.agg #[.string r.n,.int .i64 r.g,.bool r.wh,.int .i64 r.f,.int .i64 r.l,.slice ta r.ts.length tc])∧Tis ta r.ts.length r.ts w'∧(r.ts.length=0∨∃g,ta=some ⟨g,0,none⟩∧w.heap.size≤g∧Pt g (r.ts.length*2) w')∧Below w.heap.size w w'
set_option maxRecDepth 100000 in
set_option maxHeartbeats 4000000 in
theorem copy_me (b off cap:Nat) (r:Me) (w:World) (h1:1≤r.ts.length) (h5:r.ts.length≤5) (hn:r.n.size≤1048576) (hI:Tis (some ⟨b,off,none⟩) r.ts.length r.ts w) :
 Calls Tryz.prog 125 #[.agg #[.string r.n,.int .i64 r.g,.bool r.wh,.int .i64 r.f,.int .i64 r.l,.slice (some ⟨b,off,none⟩) r.ts.length cap]] w fun e w'=>ResM w r e w':=by
 obtain ⟨n,g,wh,f,l,ts⟩:=r
 simp only at *
 unfold ResM
 simp only
 have H1:=H_ (fun w=>CloneR.clone_any n w (by omega))
 have H2:Hid (∀W,Below w.heap.size w W→Calls Tryz.prog 151 #[.slice (some ⟨b,off,none⟩) ts.length cap] W fun e w'=>∃ao cp,e=.returned (.slice ao ts.length cp)∧Tis ao ts.length ts w'∧(ts.length=0∨∃g,ao=some ⟨g,0,none⟩∧W.heap.size≤g∧Pt g (ts.length*2) w')∧Below W.heap.size W w'):=H_ (fun W hW=>(clone_tis b off cap ts W h1 h5 (hI.below hW)).mono fun e w' ⟨v,he,ho,hb⟩=>by
  obtain ⟨ao,cp,rfl,h3,h4⟩:=own_tisz ho
  exact ⟨ao,cp,he,h3,h4,hb⟩)
 generalize ts.length=tl at *
 clear hI
 go_enter Tryz.func125,Tryz.ntmps125
 have HB0:Hid (Below w.heap.size w ((w.alloc (.cells #[.string n,.int .i64 g,.bool wh,.int .i64 f,.int .i64 l,.slice (some ⟨b,off,none⟩) tl cap] 117)).alloc (.cells #[.string ⟨#[]⟩,.int .i64 0,.bool false,.int .i64 0,.int .i64 0,.slice none 0 0] 117))):=H_ (((Below.refl _ _).alloc (Nat.le_refl _) _).alloc (by simp) _)
 have HP0:Hid (Pt w.heap.size 6 ((w.alloc (.cells #[.string n,.int .i64 g,.bool wh,.int .i64 f,.int .i64 l,.slice (some ⟨b,off,none⟩) tl cap] 117)).alloc (.cells #[.string ⟨#[]⟩,.int .i64 0,.bool false,.int .i64 0,.int .i64 0,.slice none 0 0] 117))):=H_ ((pt_new w [.string n,.int .i64 g,.bool wh,.int .i64 f,.int .i64 l,.slice (some ⟨b,off,none⟩) tl cap] 117).below ((Below.refl _ _).alloc (Nat.le_refl _) _))
 have HQ0:Hid (Pt (w.heap.size+1) 6 ((w.alloc (.cells #[.string n,.int .i64 g,.bool wh,.int .i64 f,.int .i64 l,.slice (some ⟨b,off,none⟩) tl cap] 117)).alloc (.cells #[.string ⟨#[]⟩,.int .i64 0,.bool false,.int .i64 0,.int .i64 0,.slice none 0 0] 117))):=H_ (by have:=pt_new (w.alloc (.cells #[.string n,.int .i64 g,.bool wh,.int .i64 f,.int .i64 l,.slice (some ⟨b,off,none⟩) tl cap] 117)) [.string ⟨#[]⟩,.int .i64 0,.bool false,.int .i64 0,.int .i64 0,.slice none 0 0] 117;simpa using this)
 go_wp2_with fail
 refine (H1.out _).mono ?_
 rintro e w1 ⟨rfl,hb1⟩
 have HB1:=H_ (HB0.out.trans (hb1.mono HB0.out.size))
 have HP1:=H_ (HP0.out.below hb1)
 have HQ1:=H_ (HQ0.out.below hb1)
 have k:=fun o=>hb1.cell (p:=⟨w.heap.size,o,none⟩) (by simp;omega)
 have c0:=k 0
 have c1:=k 1
 have c2:=k 2
 have c3:=k 3
 have c4:=k 4
 have c5:=k 5
 simp [go_sem] at c0 c1 c2 c3 c4 c5
 have f0:=HP1.out.free 0 (by omega)
 have l1:=HP1.out.lt
 have HPs:=H_ (HP1.out.set 0 (.string n))
 have HQs:=H_ (HQ1.out.far (b:=w.heap.size) (by omega) 0 (.string n))
 have HBs:Hid (Below w.heap.size w (w1.setCell ⟨w.heap.size,0,none⟩ (.string n))):=H_ (HB1.out.setCell (Nat.le_refl _) _)
 clear hb1 k
 go_wp2_with fail
 refine (H2.out _ HBs.out).mono ?_
 rintro e w2 ⟨ao,cp,rfl,hT,hP,hb2⟩
 have HB2:=H_ (HBs.out.trans (hb2.mono HBs.out.size))
 have HT2:=H_ hT
 have HO2:=H_ hP
 have HP2:=H_ (HPs.out.below hb2)
 have HQ2:=H_ (HQs.out.below hb2)
 have hs1:w.heap.size+1<w1.heap.size:=HQ1.out.lt
 have hs2:(w1.setCell ⟨w.heap.size,0,none⟩ (.string n)).heap.size=w1.heap.size:=by simp
 have HZ:Hid (∀g,tl≠0→ao=some ⟨g,0,none⟩→w1.heap.size≤g):=H_ (fun g h0 hg=>by
  obtain ⟨g',e1,e2,_⟩:=hP.resolve_left h0
  rw [e1] at hg
  simp only [Option.some.injEq,Addr.mk.injEq,and_true] at hg
  omega)
 have k:=fun o=>hb2.cell (p:=⟨w.heap.size,o,none⟩) (by simpa using l1)
 have d0:w2.cell? ⟨w.heap.size,0,none⟩=some (.string n):=(k 0).trans (by simp [go_sem,c0])
 have d1:w2.cell? ⟨w.heap.size,1,none⟩=some (.int .i64 g):=(k 1).trans (by simp [go_sem,c1])
 have d2:w2.cell? ⟨w.heap.size,2,none⟩=some (.bool wh):=(k 2).trans (by simp [go_sem,c2])
 have d3:w2.cell? ⟨w.heap.size,3,none⟩=some (.int .i64 f):=(k 3).trans (by simp [go_sem,c3])
 have d4:w2.cell? ⟨w.heap.size,4,none⟩=some (.int .i64 l):=(k 4).trans (by simp [go_sem,c4])
 obtain ⟨v5,d5⟩:=HP2.out.has 5 (by omega)
 have g5:=HP2.out.free 5 (by omega)
 have l2:=HP2.out.lt
 have q:=HQ2.out.lt
 obtain ⟨y0,e0⟩:=HQ2.out.has 0 (by omega)
 obtain ⟨y1,e1⟩:=HQ2.out.has 1 (by omega)
 obtain ⟨y2,e2⟩:=HQ2.out.has 2 (by omega)
 obtain ⟨y3,e3⟩:=HQ2.out.has 3 (by omega)
 obtain ⟨y4,e4⟩:=HQ2.out.has 4 (by omega)
 obtain ⟨y5,e5⟩:=HQ2.out.has 5 (by omega)
 have z0:=HQ2.out.free 0 (by omega)
 have z1:=HQ2.out.free 1 (by omega)
 have z2:=HQ2.out.free 2 (by omega)
 have z3:=HQ2.out.free 3 (by omega)
 have z4:=HQ2.out.free 4 (by omega)
 have z5:=HQ2.out.free 5 (by omega)
 clear hT hP hb2 k c0 c1 c2 c3 c4 c5 f0 hs2
 go_wp2_with fail
 refine bodyPost_ret (v:=.agg #[.string n,.int .i64 g,.bool wh,.int .i64 f,.int .i64 l,.slice ao tl cp]) (by simp [results,Tryz.results125,go_sem,e0,e1,e2,e3,e4,e5]) rfl ⟨ao,cp,rfl,?_,?_,?_⟩
 ·rcases Nat.eq_zero_or_pos tl with h0|h0
  ·exact ⟨HT2.out.1,.inl h0⟩
  ·obtain ⟨g',e1,e2,e3⟩:=HO2.out.resolve_left (by omega)
   subst e1
   have hz:=HZ.out g' (by omega) rfl
   exact ((((((HT2.out.far (by omega) _ _).far (by omega) _ _).far (by omega) _ _).far (by omega) _ _).far (by omega) _ _).far (by omega) _ _).far (by omega) _ _
 ·refine HO2.out.imp id (fun ⟨g',e1,e2,e3⟩=>⟨g',e1,by have:=HB1.out.size;simp at e2;omega,?_⟩)
  have hz:w1.heap.size≤g':=by simp at e2;omega
  exact ((((((e3.far (by omega) _ _).far (by omega) _ _).far (by omega) _ _).far (by omega) _ _).far (by omega) _ _).far (by omega) _ _).far (by omega) _ _
 ·exact ((((((HB2.out.setCell (Nat.le_refl _) _).setCell (by simp) _).setCell (by simp) _).setCell (by simp) _).setCell (by simp) _).setCell (by simp) _).setCell (by simp) _
end CatR
end Go.Proofs.YtcilbmhkhllmjaaGreatDoor
namespace Go.Proofs.YtcilbmhkhllmjaaGreatDoor
open Go.RowKit
set_option linter.unusedVariables false
namespace CatR
open Op (bytesLess)
theorem bl_irrefl:∀x:List UInt8,bytesLess x x=false
 | []=>rfl
 | a::x=>by
  rw [bytesLess,bl_irrefl x]
  simp
theorem bl_trans:∀{x y z:List UInt8},bytesLess x y=true→bytesLess y z=true→bytesLess x z=true
 | _,[],_,h,_=>by simp [bytesLess] at h
 | _,_::_,[],_,h=>by simp [bytesLess] at h
 | [],_::_,_::_,_,_=>rfl
 | a::x,b::y,c::z,h1,h2=>by
  rw [bytesLess] at *
  simp only [Bool.or_eq_true,Bool.and_eq_true,decide_eq_true_eq,beq_iff_eq] at *
  rcases h1 with h1|⟨rfl,h1⟩
  ·rcases h2 with h2|⟨rfl,h2⟩
   ·exact .inl (UInt8.lt_trans h1 h2)
   ·exact .inl h1
  ·rcases h2 with h2|⟨rfl,h2⟩
   ·exact .inl h2
   ·exact .inr ⟨rfl,bl_trans h1 h2⟩
theorem bl_total:∀{x y:List UInt8},bytesLess x y=false→bytesLess y x=false→x=y
 | [],[],_,_=>rfl
 | [],_::_,h,_=>by simp [bytesLess] at h
 | _::_,[],_,h=>by simp [bytesLess] at h
 | a::x,b::y,h1,h2=>by
  rw [bytesLess] at *
  simp only [Bool.or_eq_false_iff,Bool.and_eq_false_iff,decide_eq_false_iff_not,beq_eq_false_iff_ne] at *
  have e:a=b:=by
   have p1:=h1.1
   have p2:=h2.1
   rw [UInt8.lt_iff_toNat_lt] at p1 p2
   exact UInt8.toNat.inj (by omega)
  subst e
  rw [bl_total (h1.2.resolve_left (fun h=>h rfl)) (h2.2.resolve_left (fun h=>h rfl))]
def lt (a b:ByteArray):Bool:=bytesLess a.toList b.toList
theorem toList_inj {a b:ByteArray} (h:a.toList=b.toList):a=b:=by
 rw [ByteArray.toList_eq,ByteArray.toList_eq] at h
 exact ByteArray.ext (Array.ext' h)
theorem lt_irrefl (a:ByteArray):lt a a=false:=bl_irrefl _
theorem lt_trans {a b c:ByteArray} (h1:lt a b=true) (h2:lt b c=true):lt a c=true:=bl_trans h1 h2
theorem lt_total {a b:ByteArray} (h1:lt a b=false) (h2:lt b a=false):a=b:=toList_inj (bl_total h1 h2)
theorem lt_asymm {a b:ByteArray} (h:lt a b=true):lt b a=false:=by
 cases h2:lt b a
 ·rfl
 ·have:=lt_trans h h2
  rw [lt_irrefl] at this
  cases this
theorem lt_empty {b:ByteArray} (h:1≤b.size):lt ⟨#[]⟩ b=true:=by
 unfold lt
 have h1:(⟨#[]⟩:ByteArray).toList=[]:=by rw [ByteArray.toList_eq]
 rw [h1]
 cases hb:b.toList with
 | nil =>
  rw [ByteArray.toList_eq] at hb
  have:b.data.toList.length=0:=by rw [hb];rfl
  have h2:b.data.toList.length=b.size:=rfl
  omega
 | cons x l=>rfl
def mN (ms:List Me) (i:Nat):ByteArray:=(ms.getD i Me.zero).n
def cA (cs:List Cr) (i:Nat):ByteArray:=(cs.getD i Cr.zero).a
def cM (cs:List Cr) (i:Nat):Int:=(cs.getD i Cr.zero).m
def MOk (ms:List Me) (k:Nat):Prop:=∀i,i<k→MRight (ms.getD i Me.zero)∧(0<i→lt (mN ms (i-1)) (mN ms i)=true)
def COk (cs:List Cr) (k:Nat):Prop:=∀i,i<k→(NameR.nameB (cA cs i)=true∧0≤cM cs i∧cM cs i≤1000000000000)∧(0<i→lt (cA cs (i-1)) (cA cs i)=true)
def MsRight (ms:List Me):Prop:=ms.length≤6∧MOk ms ms.length
def CsRight (cs:List Cr):Prop:=cs.length≤6∧COk cs cs.length
theorem MOk.rise {ms:List Me} {k:Nat} (h:MOk ms k):∀j,j<k→∀i,i<j→lt (mN ms i) (mN ms j)=true
 | 0,_,i,hi=>absurd hi (by omega)
 | j+1,hj,i,hi=>by
  have h1:lt (mN ms j) (mN ms (j+1))=true:=(h (j+1) hj).2 (by omega)
  by_cases e:i=j
  ·subst e;exact h1
  ·exact lt_trans (MOk.rise h j (by omega) i (by omega)) h1
theorem MOk.apart {ms:List Me} {k:Nat} (h:MOk ms k) {i j:Nat} (hi:i<k) (hj:j<k) (e:mN ms i=mN ms j):i=j:=by
 rcases Nat.lt_trichotomy i j with h1|h1|h1
 ·have:=h.rise j hj i h1
  rw [e,lt_irrefl] at this
  cases this
 ·exact h1
 ·have:=h.rise i hi j h1
  rw [e,lt_irrefl] at this
  cases this
theorem MOk.zero (ms:List Me):MOk ms 0:=fun i h=>absurd h (by omega)
theorem COk.zero (cs:List Cr):COk cs 0:=fun i h=>absurd h (by omega)
theorem MOk.more {ms:List Me} {k:Nat} (h:MOk ms k) (h1:MRight (ms.getD k Me.zero)) (h2:0<k→lt (mN ms (k-1)) (mN ms k)=true):MOk ms (k+1):=by
 intro i hi
 by_cases e:i=k
 ·subst e;exact ⟨h1,h2⟩
 ·exact h i (by omega)
theorem COk.more {cs:List Cr} {k:Nat} (h:COk cs k) (h1:NameR.nameB (cA cs k)=true) (h3:0≤cM cs k∧cM cs k≤1000000000000) (h2:0<k→lt (cA cs (k-1)) (cA cs k)=true):COk cs (k+1):=by
 intro i hi
 by_cases e:i=k
 ·subst e;exact ⟨⟨h1,h3⟩,h2⟩
 ·exact h i (by omega)
def MOkDec (ms:List Me) (k:Nat):Decidable (MOk ms k) :=
 haveI:=MRightDec
 inferInstanceAs (Decidable (∀i,i<k→MRight (ms.getD i Me.zero)∧(0<i→lt (mN ms (i-1)) (mN ms i)=true)))
def COkDec (cs:List Cr) (k:Nat):Decidable (COk cs k):=inferInstanceAs (Decidable (∀i,i<k→(NameR.nameB (cA cs i)=true∧0≤cM cs i∧cM cs i≤1000000000000)∧(0<i→lt (cA cs (i-1)) (cA cs i)=true)))
def MsRightDec (ms:List Me):Decidable (MsRight ms) :=
 haveI:=MOkDec ms ms.length
 inferInstanceAs (Decidable (ms.length≤6∧MOk ms ms.length))
def CsRightDec (cs:List Cr):Decidable (CsRight cs) :=
 haveI:=COkDec cs cs.length
 inferInstanceAs (Decidable (cs.length≤6∧COk cs cs.length))
def msB (ms:List Me):Bool:=@decide (MsRight ms) (MsRightDec ms)
def csB (cs:List Cr):Bool:=@decide (CsRight cs) (CsRightDec cs)
def caB (c:Ca):Bool:=msB c.ms&&csB c.cs
theorem msB_no {ms:List Me} (h:¬MsRight ms):msB ms=false:=by unfold msB;exact @decide_eq_false _ (MsRightDec ms) h
theorem msB_yes {ms:List Me} (h:MsRight ms):msB ms=true:=by unfold msB;exact @decide_eq_true _ (MsRightDec ms) h
theorem msB_iff {ms:List Me}:msB ms=true↔MsRight ms:=by unfold msB;exact @decide_eq_true_iff _ (MsRightDec ms)
theorem csB_no {cs:List Cr} (h:¬CsRight cs):csB cs=false:=by unfold csB;exact @decide_eq_false _ (CsRightDec cs) h
theorem csB_yes {cs:List Cr} (h:CsRight cs):csB cs=true:=by unfold csB;exact @decide_eq_true _ (CsRightDec cs) h
theorem csB_iff {cs:List Cr}:csB cs=true↔CsRight cs:=by unfold csB;exact @decide_eq_true_iff _ (CsRightDec cs)
theorem mB_iff {m:Me}:mB m=true↔MRight m:=by unfold mB;exact @decide_eq_true_iff _ (MRightDec m)
def RV (v:Value):Option (DataW Value × List MemPlace):=some (.held v,[])
def kS (n:ByteArray):Lit:=.string n.data.toList
theorem kS_inj {a b:ByteArray} (h:kS a=kS b):a=b:=by
 unfold kS at h
 simp only [Lit.string.injEq] at h
 exact ByteArray.ext (Array.ext' h)
theorem kS_key (n:ByteArray):WideAt.IsKeyLit (kS n):=by
 unfold kS
 first|trivial|exact rfl|(simp [WideAt.IsKeyLit])
def mapD (ms:List Me) (V:Nat→Value):Nat→DataW Value
 | 0=>.map []
 | k+1=>(mapD ms V k).put (kS (mN ms k)) (.held (V k))
theorem mapD_is (ms:List Me) (V:Nat→Value):∀k,Maps.IsMap (mapD ms V k)
 | 0=>Maps.isMap_empty
 | k+1=>(mapD_is ms V k).put _ _
theorem has_mapD (ms:List Me) (V:Nat→Value) (n:ByteArray):∀k,Maps.has (mapD ms V k) (kS n)=true↔∃i,i<k∧mN ms i=n
 | 0=>by
  refine ⟨fun h=>?_,fun ⟨i,hi,_⟩=>absurd hi (by omega)⟩
  rw [mapD,Maps.has_eq] at h
  simp at h
 | k+1=>by
  rw [mapD]
  by_cases e:n=mN ms k
  ·subst e
   rw [Maps.has_put_same (mapD_is ms V k) (kS_key _)]
   exact ⟨fun _=>⟨k,by omega,rfl⟩,fun _=>rfl⟩
  ·rw [Maps.has_put_other (fun h=>e (kS_inj h)),has_mapD ms V n k]
   constructor
   ·rintro ⟨i,hi,h⟩;exact ⟨i,by omega,h⟩
   ·rintro ⟨i,hi,h⟩
    refine ⟨i,?_,h⟩
    rcases Nat.lt_or_ge i k with h1|h1
    ·exact h1
    ·obtain rfl:i=k:=by omega
     exact absurd h.symm e
theorem at_mapD (ms:List Me) (V:Nat→Value) (z:DataW Value):∀k,(∀i j,i<k→j<k→mN ms i=mN ms j→i=j)→∀i,i<k→(mapD ms V k).atKey (kS (mN ms i)) z=.held (V i)
 | 0,_,i,hi=>absurd hi (by omega)
 | k+1,hd,i,hi=>by
  rw [mapD]
  by_cases e:i=k
  ·subst e
   exact Maps.atKey_put_same (mapD_is ms V i) (kS_key _) _ _
  ·rw [Maps.atKey_put_other (fun h=>e (hd i k hi (by omega) (kS_inj h)))]
   exact at_mapD ms V z k (fun i j hi hj=>hd i j (by omega) (by omega)) i (by omega)
theorem at_mapD_some (ms:List Me) (V:Nat→Value) (n:ByteArray):∀k,(∃i,i<k∧mN ms i=n)→∃j,j<k∧∀z,(mapD ms V k).atKey (kS n) z=.held (V j)
 | 0,⟨i,hi,_⟩=>absurd hi (by omega)
 | k+1,h=>by
  by_cases e:n=mN ms k
  ·subst e
   exact ⟨k,by omega,fun z=>by rw [mapD];exact Maps.atKey_put_same (mapD_is ms V k) (kS_key _) _ _⟩
  ·obtain ⟨i,hi,he⟩:=h
   obtain ⟨j,hj,h2⟩:=at_mapD_some ms V n k ⟨i,by
    rcases Nat.lt_or_ge i k with h1|h1
    ·exact h1
    ·obtain rfl:i=k:=by omega
     exact absurd he.symm e,he⟩
   exact ⟨j,by omega,fun z=>by rw [mapD,Maps.atKey_put_other (fun h=>e (kS_inj h))];exact h2 z⟩
def delD (ms:List Me) (D:DataW Value):Nat→DataW Value
 | 0=>D
 | k+1=>(delD ms D k).del (kS (mN ms k))
theorem has_delD (ms:List Me) (D:DataW Value) (n:ByteArray):∀k,Maps.has (delD ms D k) (kS n)=true↔(Maps.has D (kS n)=true∧∀i,i<k→mN ms i≠n)
 | 0=>⟨fun h=>⟨h,fun i hi=>absurd hi (by omega)⟩,fun h=>h.1⟩
 | k+1=>by
  rw [delD]
  by_cases e:n=mN ms k
  ·subst e
   rw [Maps.has_del_same]
   exact ⟨fun h=>(by cases h),fun h=>absurd rfl (h.2 k (by omega))⟩
  ·rw [Maps.has_del_other (fun h=>e (kS_inj h)),has_delD ms D n k]
   constructor
   ·rintro ⟨h1,h2⟩
    refine ⟨h1,fun i hi h=>?_⟩
    rcases Nat.lt_or_ge i k with h3|h3
    ·exact h2 i h3 h
    ·obtain rfl:i=k:=by omega
     exact e h.symm
   ·rintro ⟨h1,h2⟩;exact ⟨h1,fun i hi=>h2 i (by omega)⟩
theorem at_delD (ms:List Me) (D:DataW Value) (n:ByteArray) (z:DataW Value):∀k,(∀i,i<k→mN ms i≠n)→(delD ms D k).atKey (kS n) z=D.atKey (kS n) z
 | 0,_=>rfl
 | k+1,h=>by
  rw [delD,Maps.atKey_del_other (fun e=>h k (by omega) (kS_inj e).symm)]
  exact at_delD ms D n z k (fun i hi=>h i (by omega))
theorem ms_alike {ms:List Me} {k i:Nat} (hk:k<ms.length) (hi:i<k) (e:mN ms i=mN ms k):msB ms=false:=msB_no (fun h=>by
 have:=h.2.apart (by omega) hk e
 omega)
theorem ms_falls {ms:List Me} {k:Nat} (hk:k<ms.length) (h0:0<k) (h:lt (mN ms k) (mN ms (k-1))=true):msB ms=false:=msB_no (fun hr=>by
 have:=lt_asymm ((hr.2 k hk).2 h0)
 rw [h] at this
 cases this)
theorem ms_flat {ms:List Me} {k:Nat} (hk:k<ms.length) (h0:0<k) (h:lt (mN ms (k-1)) (mN ms k)=false):msB ms=false:=msB_no (fun hr=>by
 have:=(hr.2 k hk).2 h0
 rw [h] at this
 cases this)
theorem ms_wrong {ms:List Me} {k:Nat} (hk:k<ms.length) (h:mB (ms.getD k Me.zero)=false):msB ms=false:=msB_no (fun hr=>by
 have:=mB_iff.2 (hr.2 k hk).1
 rw [h] at this
 cases this)
theorem ms_end {ms:List Me} (h6:ms.length≤6) (h:MOk ms ms.length):msB ms=true:=msB_yes ⟨h6,h⟩
theorem ms_many {ms:List Me} (h6:6<ms.length):msB ms=false:=msB_no (fun hr=>by have:=hr.1;omega)
theorem cs_many {cs:List Cr} (h6:6<cs.length):csB cs=false:=csB_no (fun hr=>by have:=hr.1;omega)
theorem cs_end {cs:List Cr} (h6:cs.length≤6) (h:COk cs cs.length):csB cs=true:=csB_yes ⟨h6,h⟩
theorem cs_name {cs:List Cr} {k:Nat} (hk:k<cs.length) (h:NameR.nameB (cA cs k)=false):csB cs=false:=csB_no (fun hr=>by
 have:=(hr.2 k hk).1.1
 rw [h] at this
 cases this)
theorem cs_micro {cs:List Cr} {k:Nat} (hk:k<cs.length) (h:¬(0≤cM cs k∧cM cs k≤1000000000000)):csB cs=false:=csB_no (fun hr=>h (hr.2 k hk).1.2)
theorem cs_flat {cs:List Cr} {k:Nat} (hk:k<cs.length) (h0:0<k) (h:lt (cA cs (k-1)) (cA cs k)=false):csB cs=false:=csB_no (fun hr=>by
 have:=(hr.2 k hk).2 h0
 rw [h] at this
 cases this)
end CatR
end Go.Proofs.YtcilbmhkhllmjaaGreatDoor
