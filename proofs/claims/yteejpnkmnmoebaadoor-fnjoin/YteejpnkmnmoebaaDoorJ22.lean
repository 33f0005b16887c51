/-
  Two windows joined on both sides: one relation of two windows says what both hand back. The condition: both together are small.
  Windows joined, in numbers: small ones stay small; what all together used is no less than what each did. No condition.
-/
import Derived.Test.YteejpnkmnmoebaaDoorJ21
namespace Go.Proofs.YteejpnkmnmoebaaDoor
open Go.ChangeShapes Go.WideShapes Go.ChangeAt Go.RowKit
set_option linter.unusedVariables false
namespace WinR
open RowG (MadeG Rws)
open DateR (Laid)
def JR (x y z:Wd) (cd:Int):Prop :=
 ((wB x&&wB y)=false∧z=wz∧cd=1)∨((wB x&&wB y)=true∧¬sameW x y∧z=wz∧cd=10)∨((wB x&&wB y)=true∧sameW x y∧wB (jw x y)=false∧z=wz∧cd=9)∨((wB x&&wB y)=true∧sameW x y∧wB (jw x y)=true∧z=jw x y∧cd=0)
theorem jr_ex (x y:Wd):∃z cd,JR x y z cd:=by
 cases h1:(wB x&&wB y)
 ·exact ⟨_,_,.inl ⟨h1,rfl,rfl⟩⟩
 ·by_cases h2:sameW x y
  ·cases h3:wB (jw x y)
   ·exact ⟨_,_,.inr (.inr (.inl ⟨h1,h2,h3,rfl,rfl⟩))⟩
   ·exact ⟨_,_,.inr (.inr (.inr ⟨h1,h2,h3,rfl,rfl⟩))⟩
  ·exact ⟨_,_,.inr (.inl ⟨h1,h2,rfl,rfl⟩)⟩
theorem same_comm {x y:Wd} (h:sameW x y):sameW y x:=⟨h.1.symm,h.2.1.symm,h.2.2.symm⟩
theorem jr_comm {x y z:Wd} {cd:Int} (h:JR x y z cd):JR y x z cd:=by
 unfold JR at *
 rw [Bool.and_comm (wB y)]
 rcases h with h|⟨h1,h2,h3⟩|⟨h1,h2,h3⟩|⟨h1,h2,h3⟩
 ·exact .inl h
 ·exact .inr (.inl ⟨h1,fun q=>h2 (same_comm q),h3⟩)
 ·rw [jw_comm h2] at h3
  exact .inr (.inr (.inl ⟨h1,same_comm h2,h3⟩))
 ·rw [jw_comm h2] at h3
  exact .inr (.inr (.inr ⟨h1,same_comm h2,h3⟩))
theorem jr_ok {x y z:Wd} (h:JR x y z 0):wB x=true∧wB y=true∧sameW x y∧wB z=true∧z=jw x y:=by
 rcases h with ⟨_,_,h⟩|⟨_,_,_,h⟩|⟨_,_,_,_,h⟩|⟨h1,h2,h3,h4,_⟩
 ·cases h
 ·cases h
 ·cases h
 ·rw [Bool.and_eq_true] at h1
  exact ⟨h1.1,h1.2,h2,by rw [h4];exact h3,h4⟩
theorem jr_no {x y z:Wd} {cd:Int} (h:JR x y z cd) (h0:cd≠0):z=wz:=by
 rcases h with ⟨_,e,_⟩|⟨_,_,e,_⟩|⟨_,_,_,e,_⟩|⟨_,_,_,_,e⟩
 ·exact e
 ·exact e
 ·exact e
 ·exact absurd e h0
theorem jr_right {x y z:Wd} {cd:Int} (h:JR x y z cd):cd≠0∨wB z=true:=by
 by_cases h0:cd=0
 ·subst h0
  exact .inr (jr_ok h).2.2.2.1
 ·exact .inl h0
theorem jr_assoc {a b c ab bc l r:Wd} {cr:Int} (h1:JR a b ab 0) (h2:JR b c bc 0) (h3:JR ab c l 0) (h4:JR a bc r cr):r=l∧cr=0:=by
 obtain ⟨a1,a2,a3,a4,rfl⟩:=jr_ok h1
 obtain ⟨b1,b2,b3,b4,rfl⟩:=jr_ok h2
 obtain ⟨c1,c2,c3,c4,rfl⟩:=jr_ok h3
 rw [jw_assoc] at c4 ⊢
 have hs:sameW a (jw b c):=a3
 rcases h4 with ⟨q,_⟩|⟨_,q,_⟩|⟨_,_,q,_⟩|⟨_,_,_,e,f⟩
 ·rw [a1,b4] at q;cases q
 ·exact absurd hs q
 ·rw [c4] at q;cases q
 ·exact ⟨e,f⟩
theorem wdp_wz (W:World):WdP wz none 0 none 0 W:=⟨.inl rfl,.inl rfl,.inl ⟨rfl,rfl,rfl⟩,.inl ⟨rfl,rfl,rfl⟩⟩
theorem slw_of {z:Wd} {ta:Option Addr} {tc:Nat} {ha:Option Addr} {hc:Nat} (h:SlW (.agg (wcells z ta tc ha hc))):SlOk ta z.ts.length tc∧SlOk ha z.hs.length hc:=by
 obtain ⟨_,_,_,_,_,_,_,_,_,_,_,_,e,s1,s2⟩:=h
 simp only [wcells,Value.agg.injEq,Array.mk.injEq,List.cons.injEq,Value.slice.injEq,and_true] at e
 obtain ⟨_,_,_,_,_,_,⟨rfl,rfl,rfl⟩,rfl,rfl,rfl⟩:=e
 exact ⟨s1,s2⟩
theorem made_from {α:Type} {k:Nat} {cells:α→List Value} {z:α} {base:Nat} {ao:Option Addr} {xs:List α} {W:World} (h:MadeG k cells z base ao xs W):xs.length=0∨∀b off,ao=some ⟨b,off,none⟩→base≤b:=by
 rcases h.own with h0|⟨q,e1,e2,_⟩
 ·exact .inl h0
 ·refine .inr (fun b off e=>?_)
  rw [e1] at e
  simp only [Option.some.injEq,Addr.mk.injEq,and_true] at e
  omega
theorem impl_jr {x y z:Wd} {cd:Int} (hj:JR x y z cd) {ta1:Option Addr} {tc1:Nat} {ha1:Option Addr} {hc1:Nat} {ta2:Option Addr} {tc2:Nat} {ha2:Option Addr} {hc2:Nat} (w:World) (h2:Two x y) (hL:Laid w) (p:WdP x ta1 tc1 ha1 hc1 w) (q:WdP y ta2 tc2 ha2 hc2 w) :
 Calls Tryd.prog 5 #[.agg (wcells x ta1 tc1 ha1 hc1),.agg (wcells y ta2 tc2 ha2 hc2)] w fun e w'=>∃ta tc ha hc,e=.returned (.agg (ocells z ta tc ha hc cd))∧(WdP z ta tc ha hc w'∧WdB w.heap.size z ta ha)∧Below w.heap.size w w':=by
 refine (impl_join x y ta1 tc1 ha1 hc1 ta2 tc2 ha2 hc2 w h2 hL p.s1 p.s2 q.s1 q.s2 p.tg p.hr q.tg q.hr).mono ?_
 rintro e w' ⟨h,hb⟩
 rcases h with ⟨q1,rfl⟩|⟨q1,q2,rfl⟩|⟨q1,q2,q3,rfl⟩|⟨q1,q2,q3,v,rfl,hm,hs⟩<;>rcases hj with ⟨r1,rfl,rfl⟩|⟨r1,r2,rfl,rfl⟩|⟨r1,r2,r3,rfl,rfl⟩|⟨r1,r2,r3,rfl,rfl⟩
 all_goals first|exact absurd q2 r2|exact absurd r2 q2|(rw [r1] at q1;cases q1;done)|(rw [r3] at q3;cases q3;done)|exact ⟨none,0,none,0,rfl,⟨wdp_wz _,⟨.inl rfl,.inl rfl⟩⟩,hb⟩|skip
 obtain ⟨ta,tc,ha,hc,rfl,m1,m2,_⟩:=hm
 exact ⟨ta,tc,ha,hc,rfl,⟨⟨m1.rws,m2.rws,(slw_of hs).1,(slw_of hs).2⟩,⟨made_from m1,made_from m2⟩⟩,hb⟩
theorem impl_jp {x y z:Wd} {cd:Int} (hj:JR x y z cd) {ta1:Option Addr} {tc1:Nat} {ha1:Option Addr} {hc1:Nat} {ta2:Option Addr} {tc2:Nat} {ha2:Option Addr} {hc2:Nat} (w:World) (h2:Two x y) (hL:Laid w) (p:WdP x ta1 tc1 ha1 hc1 w) (q:WdP y ta2 tc2 ha2 hc2 w) :
 Calls Tryd.prog 5 #[.agg (wcells x ta1 tc1 ha1 hc1),.agg (wcells y ta2 tc2 ha2 hc2)] w fun e w'=>∃ta tc ha hc,e=.returned (.agg (ocells z ta tc ha hc cd))∧WdP z ta tc ha hc w'∧Below w.heap.size w w':=by
 refine (impl_jr hj w h2 hL p q).mono ?_
 rintro e w' ⟨ta,tc,ha,hc,h,hp,hb⟩
 exact ⟨ta,tc,ha,hc,h,hp.1,hb⟩
theorem spec_jr {x y z:Wd} {cd:Int} (hj:JR x y z cd) {ta1:Option Addr} {tc1:Nat} {ha1:Option Addr} {hc1:Nat} {ta2:Option Addr} {tc2:Nat} {ha2:Option Addr} {hc2:Nat} (w:World) (h2:Two x y) (p:WdP x ta1 tc1 ha1 hc1 w) (q:WdP y ta2 tc2 ha2 hc2 w) :
 Calls Tryd.prog 8 #[.agg (wcells x ta1 tc1 ha1 hc1),.agg (wcells y ta2 tc2 ha2 hc2)] w fun e w'=>∃ta tc ha hc,e=.returned (.agg (ocells z ta tc ha hc cd))∧Tgs ta z.ts w'∧Hrs ha z.hs w'∧Below w.heap.size w w':=by
 refine (swj_in (fun v base W=>∃ta tc ha hc,v=.agg (ocells z ta tc ha hc cd)∧Tgs ta z.ts W∧Hrs ha z.hs W∧(z.ts.length=0∨∀b off,ta=some ⟨b,off,none⟩→base≤b)∧(z.hs.length=0∨∀b off,ha=some ⟨b,off,none⟩→base≤b)) (wB x) (wB y) x.a x.m x.mo x.ev x.su x.mx ta1 x.ts.length tc1 ha1 x.hs.length hc1 y.a y.m y.mo y.ev y.su y.mx ta2 y.ts.length tc2 ha2 y.hs.length hc2 w ?_
  (fun W hW=>spec_window_right x _ _ _ _ W h2.sx.1 h2.sx.2.1 h2.sx.2.2.1 h2.sx.2.2.2.1 (p.tg.below hW) (p.hr.below hW))
  (fun W hW=>spec_window_right y _ _ _ _ W h2.sy.1 h2.sy.2.1 h2.sy.2.2.1 h2.sy.2.2.2.1 (q.tg.below hW) (q.hr.below hW)) ?_).mono ?_
 ·rintro v base W W' g ⟨ta,tc,ha,hc,e,q4,q5,q6,q7⟩ hg hlt
  exact ⟨ta,tc,ha,hc,e,Rws.keep q4 hg (q6.imp id (fun q b off e=>by have:=q b off e;omega)),Rws.keep q5 hg (q7.imp id (fun q b off e=>by have:=q b off e;omega)),q6,q7⟩
 ·intro hx hy W hW
  obtain ⟨hb,hf,rfl,_,_⟩:=p.hr.at 0 (fit hx).l1
  refine (spec_l07join x y ta1 tc1 hb hf hc1 ta2 tc2 ha2 hc2 W h2 hx hy (p.tg.below hW) (p.hr.below hW) (q.tg.below hW) (q.hr.below hW)).mono ?_
  rintro e w' ⟨hp,hbw⟩
  have hxy:(wB x&&wB y)=true:=by rw [hx,hy];rfl
  rcases hp with ⟨q1,rfl⟩|⟨q1,q2,rfl⟩|⟨q1,q2,ta,tc,ha,hc,rfl,q4,q5,q6,q7,_⟩<;>rcases hj with ⟨r1,rfl,rfl⟩|⟨r1,r2,rfl,rfl⟩|⟨r1,r2,r3,rfl,rfl⟩|⟨r1,r2,r3,rfl,rfl⟩
  all_goals first|exact absurd q1 r2|exact absurd r2 q1|(rw [hxy] at r1;cases r1;done)|(rw [r3] at q2;cases q2;done)|exact ⟨_,_,_,_,_,_,_,_,_,_,_,_,_,rfl,⟨none,0,none,0,rfl,.inl rfl,.inl rfl,.inl rfl,.inl rfl⟩,hbw⟩|skip
  exact ⟨_,_,_,_,_,_,_,_,_,_,_,_,_,rfl,⟨ta,tc,ha,hc,rfl,q4.1,q5,.inr q6,.inr q7⟩,hbw⟩
 ·rintro e w' ⟨v,rfl,h,hb⟩
  rcases h with ⟨q1,rfl⟩|⟨q1,base,_,ta,tc,ha,hc,rfl,q4,q5,_⟩
  ·rcases hj with ⟨r1,rfl,rfl⟩|⟨r1,r2,rfl,rfl⟩|⟨r1,r2,r3,rfl,rfl⟩|⟨r1,r2,r3,rfl,rfl⟩
   ·exact ⟨none,0,none,0,rfl,.inl rfl,.inl rfl,hb⟩
   all_goals (rw [r1] at q1;cases q1)
  ·exact ⟨ta,tc,ha,hc,rfl,q4,q5,hb⟩
end WinR
namespace WinR
theorem jr_sm {x y z:Wd} {cd:Int} (hx:Sm 13 x) (hy:Sm 13 y) (h:JR x y z cd):Sm 13 z:=by
 by_cases h0:cd=0
 ·subst h0
  obtain ⟨_,_,_,h4,rfl⟩:=jr_ok h
  exact (jw_sm hx hy.ts h4).le (by omega)
 ·rw [jr_no h h0]
  exact sm_wz 13
theorem sm_two {x y:Wd} (hx:Sm 13 x) (hy:Sm 13 y):Two x y:=⟨hx.small (by omega),hy.small (by omega),by have:=hx.tl;have:=hy.tl;omega,by have:=hx.hl;have:=hy.hl;omega⟩
theorem mx_in {x:Wd} (h:wB x=true):0≤x.mx∧x.mx≤1000000000000:=by
 unfold wB at h
 simp only [Bool.and_eq_true] at h
 obtain ⟨_,hc,_⟩:=h
 obtain ⟨_,hs,hm⟩:=counted_su hc
 omega
theorem jval_in {x:Wd} (h:wB x=true) (g:Int):0≤valV x g∧valV x g≤1000000000000:=by
 have hf:=fit h
 have hm:=mx_in h
 have hk:pk x.hs≤1000000000000:=pk_bound.2 ⟨by omega,fun z hz=>(hf.hs z hz).2⟩
 have hk0:=(pk_ge x.hs).1
 have h1:=hf.su
 have h2:=hf.tt
 unfold valV
 split
 ·omega
 ·split
  ·omega
  ·split
   ·omega
   ·split<;>omega
theorem jr_val {a b z:Wd} (h:JR a b z 0) (g:Int):valueV a g≤valueV z g∧valueV b g≤valueV z g∧valueV z g≤valueV a g+valueV b g∧0≤valueV a g∧valueV a g≤1000000000000∧0≤valueV b g∧valueV b g≤1000000000000:=by
 obtain ⟨h1,h2,_,h4,rfl⟩:=jr_ok h
 have h5:=val_join (fit h1) (fit h2) (mx_in h1).1 (mx_in h2).1 g
 have h6:=jval_in h1 g
 have h7:=jval_in h2 g
 unfold valueV
 rw [h1,h2,h4]
 simp only [cond_true]
 omega
end WinR
end Go.Proofs.YteejpnkmnmoebaaDoor
