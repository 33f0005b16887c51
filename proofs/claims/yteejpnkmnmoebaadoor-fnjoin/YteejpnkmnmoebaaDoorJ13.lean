/-
  The window of a right event is right; the zero window is not. No condition.
  A small window and a small event added, the model's way: some small window behind it, its lists one's own. No condition.
  Windows drawn: some small window of one's own, its tags in a row that may grow. No condition.
-/
import Derived.Test.YteejpnkmnmoebaaDoorJ12
namespace Go.Proofs.YteejpnkmnmoebaaDoor
open Go.ChangeShapes Go.WideShapes Go.ChangeAt Go.RowKit
set_option linter.unusedVariables false
namespace WinR
open RowG (MadeG Rws)
open LtR (lt)
open EvtR (Pt evB ev)
open CatR (Blk Blk.new)
open DateR (Laid)
open DateM (fd fd_succ fd_2760 fd_mono)
theorem fd_2761:fd 2761=84037:=by
 have h:=fd_succ 2760
 rw [fd_2760] at h
 rw [h]
 decide +kernel
theorem one_rise {α:Type} {r:α→α→Bool} {z:α} {xs:List α} (h:xs.length≤1):riseB r z xs=true:=rise_yes (rise_one xs.length h)
theorem ev_right (i a m t:ByteArray) (n k:Int) (K:Nat) (hev:evB i a m n k t=true) (f1:fd K≤n / 1440) (f2:n / 1440<fd (K+1)):wB ⟨a,m,(K:Int),1,k,k,tgl t,[⟨HourR.hourV n,k⟩]⟩=true:=by
 unfold evB at hev
 simp only [Bool.and_eq_true,decide_eq_true_eq] at hev
 obtain ⟨_,ha,hm,⟨n1,n2⟩,⟨k1,k2⟩,ht⟩:=hev
 have hK:K≤2760:=by
  rcases Nat.lt_or_ge 2760 K with q|q
  ·have:=fd_mono (j:=2761) (k:=K) q
   rw [fd_2761] at this
   omega
  ·exact q
 have hv:HourR.hourV n=n / 60:=by
  unfold HourR.hourV
  rw [if_pos ⟨n1,n2⟩,Int.tdiv_eq_ediv_of_nonneg n1]
 have hd:60*(n / 60) / 1440=n / 1440:=by omega
 unfold wB namedB countedB timedB hoursB tagsB
 simp only [Bool.and_eq_true,decide_eq_true_eq]
 refine ⟨⟨ha,hm,by omega,by omega⟩,⟨⟨by omega,by omega⟩,⟨k1,by omega⟩,k1,by omega⟩,⟨?_,?_,?_⟩,⟨by simp,by simp⟩,one_rise (by simp),?_,?_⟩
 ·unfold tgl;split<;>simp
 ·exact one_rise (by unfold tgl;split<;>simp)
 ·unfold tgl
  split
  ·rfl
  ·rename_i q
   simp only [List.all_cons,List.all_nil,Bool.and_true]
   unfold tagOk
   simp only [Bool.and_eq_true,decide_eq_true_eq]
   exact ⟨by omega,ht⟩
 ·simp only [List.all_cons,List.all_nil,Bool.and_true]
  unfold hOk hourIn
  simp only [Bool.and_eq_true,decide_eq_true_eq]
  rw [hv,hd]
  exact ⟨⟨by omega,by omega,by omega,by simpa using f1,by simpa using f2⟩,k1,by omega⟩
 ·simp [hsum]
end WinR
namespace WinR
open RowG (MadeG Rws)
open LtR (lt)
open EvtR (Pt ev evB)
open CatR (Blk Blk.new)
structure Sm (n:Nat) (y:Wd):Prop where
 a:y.a.size≤100
 m:y.m.size≤100
 tl:y.ts.length≤n
 ts:∀t∈y.ts,t.size≤100
 hl:y.hs.length≤12
theorem Sm.small {n:Nat} {y:Wd} (h:Sm n y) (hn:n≤20):y.Small:=⟨by have:=h.a;omega,by have:=h.m;omega,by have:=h.tl;omega,fun t ht=>by have:=h.ts t ht;omega,by have:=h.hl;omega⟩
theorem Sm.le {n k:Nat} {y:Wd} (h:Sm n y) (hn:n≤k):Sm k y:=⟨h.a,h.m,Nat.le_trans h.tl hn,h.ts,h.hl⟩
theorem sm_wz (n:Nat):Sm n wz:=⟨by decide,by decide,Nat.zero_le _,by simp [wz],Nat.zero_le _⟩
structure WdO (B:Nat) (y:Wd) (ta:Option Addr) (tc:Nat) (ha:Option Addr) (hc:Nat) (W:World):Prop where
 tg:TgO B ta y.ts tc W
 hr:Hrs ha y.hs W
 hb:y.hs.length=0∨∀b off,ha=some ⟨b,off,none⟩→B≤b
 ne:∀b off b' off',ta=some ⟨b,off,none⟩→ha=some ⟨b',off',none⟩→b≠b'
 sl:SlOk ha y.hs.length hc
section
variable {B B' g:Nat} {y:Wd} {ta:Option Addr} {tc:Nat} {ha:Option Addr} {hc:Nat} {W W':World}
theorem WdO.below (h:WdO B y ta tc ha hc W) (hb:Below W.heap.size W W'):WdO B y ta tc ha hc W':=⟨h.tg.below hb,h.hr.below hb,h.hb,h.ne,h.sl⟩
theorem WdO.low (h:WdO B y ta tc ha hc W) (hB:B'≤B):WdO B' y ta tc ha hc W:=⟨h.tg.low hB,h.hr,h.hb.imp id (fun q b off e=>Nat.le_trans hB (q b off e)),h.ne,h.sl⟩
theorem WdO.far (h:WdO B y ta tc ha hc W) (hg:W.grownBy W' (some g)) (hT:∀b off,ta=some ⟨b,off,none⟩→b≠g) (hH:y.hs.length=0∨∀b off,ha=some ⟨b,off,none⟩→b≠g):WdO B y ta tc ha hc W':=⟨h.tg.far hg hT,Rws.keep h.hr hg hH,h.hb,h.ne,h.sl⟩
theorem WdO.kept (h:WdO B y ta tc ha hc W) (hg:W.grownBy W' (some g)) (hB:g<B):WdO B y ta tc ha hc W' :=
 h.far hg (fun b off e=>by have:=h.tg.ge b off e;omega) (h.hb.imp id (fun q b off e=>by have:=q b off e;omega))
end
theorem jw_sm {x y:Wd} (hx:Sm 13 x) (hy:∀t∈y.ts,t.size≤100) (h:wB (jw x y)=true):Sm 12 (jw x y):=by
 have hf:=fit h
 refine ⟨hx.a,hx.m,hf.tt,?_,hf.lh⟩
 exact mrg_all lt fstT (fun t=>t.size≤100) (fun x y h1 _=>h1) x.ts y.ts hx.ts hy
theorem sev_window (i a m t:ByteArray) (n k:Int) (la:a.size≤100) (lm:m.size≤100) (lt:t.size≤100) :
 ∃y:Wd,(evB i a m n k t=true→wB y=true)∧Sm 1 y∧y.hs.length≤1∧(evB i a m n k t=true→∀w,Calls Tryd.prog 57 #[ev i a m n k t] w fun e w'=>∃v,e=.returned v∧NewWO w.heap.size y v w'∧Below w.heap.size w w'):=by
 cases hev:evB i a m n k t
 ·exact ⟨wz,fun h=>(by cases h),sm_wz 1,Nat.zero_le _,fun h=>(by cases h)⟩
 ·have h:=hev
  unfold evB at h
  simp only [Bool.and_eq_true,decide_eq_true_eq] at h
  obtain ⟨_,_,_,⟨n1,n2⟩,_⟩:=h
  obtain ⟨K,_,f1,f2,hi,hs⟩:=month_two n n1 n2
  refine ⟨⟨a,m,K,1,k,k,tgl t,[⟨HourR.hourV n,k⟩]⟩,fun _=>ev_right i a m t n k K hev f1 f2,⟨la,lm,?_,fun x hx=>?_,by simp⟩,by simp,fun _ w=>sof_in i a m t n k K w n1 n2 hs⟩
  ·show (tgl t).length≤1
   unfold tgl;split<;>simp
  ·have hx':x∈tgl t:=hx
   unfold tgl at hx'
   split at hx'
   ·cases hx'
   ·simp only [List.mem_singleton] at hx'
    subst hx'
    exact lt
def AddP (v:Value) (base:Nat) (W:World):Prop:=∃(z:Wd) (ta:Option Addr) (tc:Nat) (ha:Option Addr) (hc:Nat) (cd:Int),v=.agg #[.string z.a,.string z.m,.int .i64 z.mo,.int .i64 z.ev,.int .i64 z.su,.int .i64 z.mx,.slice ta z.ts.length tc,.slice ha z.hs.length hc,.int .i64 cd]∧(cd=0→Sm 12 z∧WdO base z ta tc ha hc W)
theorem add_any (x:Wd) (ta:Option Addr) (tc:Nat) (ha:Option Addr) (hc:Nat) (i a m t:ByteArray) (n k:Int) (w:World) (sx:Sm 13 x) (hT:Tgs ta x.ts w) (hH:Hrs ha x.hs w) (li:i.size≤100) (la:a.size≤100) (lm:m.size≤100) (lt:t.size≤100) :
 Calls Tryd.prog 32 #[.agg (wcells x ta tc ha hc),ev i a m n k t] w fun e w'=>∃v,e=.returned v∧AddP v w.heap.size w'∧Below w.heap.size w w':=by
 obtain ⟨y,y1,sy,y2,y3⟩:=sev_window i a m t n k la lm lt
 have hsx:=sx.small (by omega)
 have hsy:=sy.small (by omega)
 have h2:Two x y:=⟨hsx,hsy,by have:=sx.tl;have:=sy.tl;omega,by have:=sx.hl;omega⟩
 refine (sadd_in AddP (fun v W=>IsWd v y W) (wB x) (evB i a m n k t) x.a x.m x.mo x.ev x.su x.mx ta x.ts.length tc ha x.hs.length hc i a m n k t w ?_ (fun W hW=>spec_window_right x ta tc ha hc W hsx.1 hsx.2.1 hsx.2.2.1 hsx.2.2.2.1 (hT.below hW) (hH.below hW)) (fun W hW=>EvtR.spec_event i a m n k t (by omega) (by omega) (by omega) (by omega) W) (fun h W hW=>?_) (fun hx hy v W hW hY=>?_)).mono ?_
 ·rintro v base W W' ⟨z,ta',tc',ha',hc',cd,rfl,hz⟩ hg hlt
  exact ⟨z,ta',tc',ha',hc',cd,rfl,fun h=>⟨(hz h).1,(hz h).2.kept hg hlt⟩⟩
 ·refine (y3 h W).mono ?_
  rintro e w' ⟨v,rfl,⟨ta',tc',ha',hc',rfl,q1,q2,_⟩,hb⟩
  exact ⟨_,rfl,⟨ta',tc',ha',hc',rfl,q1.1,q2⟩,hb⟩
 ·obtain ⟨ta2,tc2,ha2,hc2,rfl,q1,q2⟩:=hY
  have hl1:=(fit hx).l1
  obtain ⟨hb,hf,rfl,_⟩:=hH.at 0 (by omega)
  refine (spec_l07join x y ta tc hb hf hc ta2 tc2 ha2 hc2 W h2 hx (y1 hy) (hT.below hW) (hH.below hW) q1 q2).mono ?_
  rintro e w' ⟨⟨_,rfl⟩|⟨_,_,rfl⟩|⟨_,h3,ta3,tc3,ha3,hc3,rfl,g1,g2,g3,g4,g5,g6,g7⟩,hb2⟩
  ·exact ⟨_,_,_,_,_,_,_,_,_,_,_,_,_,rfl,⟨wz,none,0,none,0,10,rfl,fun h=>by cases h⟩,hb2⟩
  ·exact ⟨_,_,_,_,_,_,_,_,_,_,_,_,_,rfl,⟨wz,none,0,none,0,9,rfl,fun h=>by cases h⟩,hb2⟩
  ·exact ⟨_,_,_,_,_,_,_,_,_,_,_,_,_,rfl,⟨jw x y,ta3,tc3,ha3,hc3,0,rfl,fun _=>⟨jw_sm sx sy.ts h3,⟨g1,g2,.inr g4,g5,g7⟩⟩⟩,hb2⟩
 ·rintro e w' ⟨v,rfl,⟨_,rfl⟩|⟨_,base,hbase,z,ta',tc',ha',hc',cd,rfl,hz⟩,hb⟩
  ·exact ⟨_,rfl,⟨wz,none,0,none,0,1,rfl,fun h=>by cases h⟩,hb⟩
  ·exact ⟨_,rfl,⟨z,ta',tc',ha',hc',cd,rfl,fun h=>⟨(hz h).1,(hz h).2.low hbase⟩⟩,hb⟩
theorem of_any (i a m t:ByteArray) (n k:Int) (w:World) (li:i.size≤100) (la:a.size≤100) (lm:m.size≤100) (lt:t.size≤100) :
 Calls Tryd.prog 30 #[ev i a m n k t] w fun e w'=>(∃(z:Wd) (ta:Option Addr) (tc:Nat) (ha:Option Addr) (hc:Nat),e=.returned (.agg (wcells z ta tc ha hc))∧Sm 12 z∧WdO w.heap.size z ta tc ha hc w')∧Below w.heap.size w w':=by
 obtain ⟨y,y1,sy,y2,y3⟩:=sev_window i a m t n k la lm lt
 cases hev:evB i a m n k t
 ·refine (sof_any i a m t n k wz w (by omega) (by omega) (by omega) (by omega) (.inl ⟨hev,rfl⟩)).mono ?_
  rintro e w' ⟨v,rfl,⟨ta,tc,ha,hc,rfl,q1,q2,q3,q4,q5⟩,hb⟩
  exact ⟨⟨wz,ta,tc,ha,hc,rfl,sm_wz 12,q1,q2,q3,q4,q5⟩,hb⟩
 ·refine (sof_any i a m t n k y w (by omega) (by omega) (by omega) (by omega) (.inr ⟨hev,y3 hev⟩)).mono ?_
  rintro e w' ⟨v,rfl,⟨ta,tc,ha,hc,rfl,q1,q2,q3,q4,q5⟩,hb⟩
  exact ⟨⟨y,ta,tc,ha,hc,rfl,sy.le (by omega),q1,q2,q3,q4,q5⟩,hb⟩
end WinR
namespace DrawR
open EvtR (ev Pt)
open WinR (Wd Sm WdO wcells H Hrs Tgs TgO add_any of_any AddP)
abbrev BW (b:Nat) (cs:List Value) (w:World):Prop:=WinR.BlkW b cs w
theorem bw_new (w:World) (cs:List Value) (T:TypeId):BW w.heap.size cs (w.alloc (.cells cs.toArray T)):=WinR.BlkW.new w cs T
theorem bw_gr {b:Nat} {cs:List Value} {w w':World} {row:Option Nat} (h:BW b cs w) (hg:w.grownBy w' row) (hne:some b≠row):BW b cs w':=WinR.BlkW.grown h hg hne
set_option maxRecDepth 100000 in
set_option maxHeartbeats 8000000 in
theorem some7_any (ao:Option Addr) (len cap g:Nat) (w:World) (hS:Src ao len cap g w) :
 Calls Tryd.prog 31 #[.pointer (some ⟨g,0,none⟩)] w fun e w'=>EvOut ao len cap g w e w':=by
 have hgl:=hS.lt
 obtain ⟨W0,hW0⟩:∃W0,W0=w.alloc (.cells #[.string ⟨#[]⟩,.string ⟨#[]⟩,.string ⟨#[]⟩,.int .i64 0,.int .i64 0,.string ⟨#[]⟩] 76):=⟨_,rfl⟩
 have HR:Hid (BW w.heap.size [.string ⟨#[]⟩,.string ⟨#[]⟩,.string ⟨#[]⟩,.int .i64 0,.int .i64 0,.string ⟨#[]⟩] W0):=H_ (by rw [hW0];exact bw_new w _ _)
 have HG:Hid (w.grownBy W0 (some g)):=H_ (by rw [hW0];exact World.grownBy_alloc _ _ _)
 have HS:Hid (Src ao len cap g W0):=H_ (by rw [hW0];exact hS.alloc _)
 have HW0:=H_ hW0
 clear hW0 hS
 go_enter Tryd.func31,Tryd.ntmps31
 go_wp2_with fail
 rw [←HW0.out]
 clear HW0
 refine (event_any ao len cap g _ HS.out).mono ?_
 rintro e w1 ⟨⟨t1,t2,t3,nn,v7,t8,rfl,h1,h2,h3,h8⟩,hS,hg⟩
 replace HR:=H_ (bw_gr HR.out hg (by simp;omega))
 replace HG:=H_ (Lib.grownBy_trans HG.out hg)
 replace HS:=H_ hS
 have HH:=H_ (And.intro h1 (And.intro h2 (And.intro h3 h8)))
 clear h1 h2 h3 h8 hS hg
 unfold ev
 go_wp2_with fail
 have HV:Hid (BW w1.heap.size [.string t1,.string t2,.string t3,.int .i64 nn,.int .i64 v7,.string t8] (w1.alloc (.cells #[.string t1,.string t2,.string t3,.int .i64 nn,.int .i64 v7,.string t8] 76))):=H_ (bw_new w1 [.string t1,.string t2,.string t3,.int .i64 nn,.int .i64 v7,.string t8] _)
 have HL:Hid (w.heap.size<w1.heap.size):=H_ HR.out.1.1
 replace HR:=H_ (bw_gr HR.out (World.grownBy_alloc w1 (.cells #[.string t1,.string t2,.string t3,.int .i64 nn,.int .i64 v7,.string t8] 76) none) (by simp))
 replace HG:=H_ (Lib.grownBy_trans HG.out (World.grownBy_alloc w1 (.cells #[.string t1,.string t2,.string t3,.int .i64 nn,.int .i64 v7,.string t8] 76) (some g)))
 replace HS:=H_ (HS.out.alloc (.cells #[.string t1,.string t2,.string t3,.int .i64 nn,.int .i64 v7,.string t8] 76))
 generalize w1.heap.size=V at *
 refine (one_any ao len cap g 10 _ (by omega) HS.out).mono ?_
 rintro e w2 ⟨⟨q,rfl⟩,hS,hg⟩
 have HL2:Hid (g<V):=H_ (by have:=HL.out;omega)
 replace HR:=H_ (bw_gr HR.out hg (by simp;omega))
 replace HV:=H_ (bw_gr HV.out hg (by have:=HL2.out;simp;omega))
 replace HG:=H_ (Lib.grownBy_trans HG.out hg)
 replace HS:=H_ hS
 clear hS hg
 cases q
 ·obtain ⟨⟨vl,vk⟩,vf⟩:=HV.out
  have f1:=vf 1 (by simp)
  have f2:=vf 2 (by simp)
  have x1:w2.cell? ⟨V,1,none⟩=some (.string t2):=vk 1 (by simp)
  have x2:w2.cell? ⟨V,2,none⟩=some (.string t3):=vk 2 (by simp)
  clear vk vf
  go_wp2_with fail
  obtain ⟨w3,hw3⟩:∃z,z=(w2.setCell ⟨V,1,none⟩ (.string ⟨#[97,110,110]⟩)).setCell ⟨V,2,none⟩ (.string ⟨#[99,112,117]⟩):=⟨_,rfl⟩
  have HR3:Hid (BW w.heap.size [.string ⟨#[]⟩,.string ⟨#[]⟩,.string ⟨#[]⟩,.int .i64 0,.int .i64 0,.string ⟨#[]⟩] w3):=H_ (by rw [hw3];exact (HR.out.other V 1 _ (by have:=HL.out;omega)).other V 2 _ (by have:=HL.out;omega))
  have HV3:Hid (BW V [.string t1,.string ⟨#[97,110,110]⟩,.string ⟨#[99,112,117]⟩,.int .i64 nn,.int .i64 v7,.string t8] w3):=H_ (by rw [hw3];have:=(HV.out.set 1 (.string ⟨#[97,110,110]⟩) (by simp)).set 2 (.string ⟨#[99,112,117]⟩) (by simp);simpa using this)
  have HG3:Hid (w.grownBy w3 (some g)):=H_ (by rw [hw3];exact set_new (set_new HG.out (by have:=HL.out;omega) _ _) (by have:=HL.out;omega) _ _)
  have HS3:Hid (Src ao len cap g w3):=H_ (by rw [hw3];exact src_set (src_set HS.out (by have:=HL2.out;omega) _ _) (by have:=HL2.out;omega) _ _)
  rw [←hw3]
  clear hw3 HR HV HG HS vl f1 f2 x1 x2
  refine (start_any _).mono ?_
  rintro e w4 ⟨⟨v4,rfl⟩,hb4⟩
  replace HR3:=H_ (HR3.out.below hb4)
  replace HV3:=H_ (HV3.out.below hb4)
  replace HG3:=H_ (Lib.grownBy_trans HG3.out (rgrown hb4 (some g)))
  replace HS3:=H_ (HS3.out.kept (rgrown hb4 none) (fun k e=>by cases e))
  clear hb4
  go_wp2_with fail
  refine (n_any ao len cap g 9 _ (by omega) HS3.out).mono ?_
  rintro e w5 ⟨v5,rfl,lo5,_,hi5,hS,hg⟩
  have ht5:v5<9:=hi5 (by omega)
  replace HR3:=H_ (bw_gr HR3.out hg (by simp;omega))
  replace HV3:=H_ (bw_gr HV3.out hg (by have:=HL2.out;simp;omega))
  replace HG3:=H_ (Lib.grownBy_trans HG3.out hg)
  replace HS3:=H_ hS
  clear hS hg hi5
  go_wp2_with fail
  refine (n_any ao len cap g 60 _ (by omega) HS3.out).mono ?_
  rintro e w6 ⟨v6,rfl,lo6,_,hi6,hS,hg⟩
  have ht6:v6<60:=hi6 (by omega)
  replace HR3:=H_ (bw_gr HR3.out hg (by simp;omega))
  replace HV3:=H_ (bw_gr HV3.out hg (by have:=HL2.out;simp;omega))
  replace HG3:=H_ (Lib.grownBy_trans HG3.out hg)
  replace HS3:=H_ hS
  clear hS hg hi6
  obtain ⟨⟨vl,vk⟩,vf⟩:=HV3.out
  obtain ⟨⟨zl,zk⟩,zf⟩:=HR3.out
  have x0:w6.cell? ⟨V,0,none⟩=some (.string t1):=vk 0 (by simp)
  have x1:w6.cell? ⟨V,1,none⟩=some (.string ⟨#[97,110,110]⟩):=vk 1 (by simp)
  have x2:w6.cell? ⟨V,2,none⟩=some (.string ⟨#[99,112,117]⟩):=vk 2 (by simp)
  have x3:w6.cell? ⟨V,3,none⟩=some (.int .i64 nn):=vk 3 (by simp)
  have x4:w6.cell? ⟨V,4,none⟩=some (.int .i64 v7):=vk 4 (by simp)
  have x5:w6.cell? ⟨V,5,none⟩=some (.string t8):=vk 5 (by simp)
  have z0:w6.cell? ⟨w.heap.size,0,none⟩=some (.string ⟨#[]⟩):=zk 0 (by simp)
  have y0:=zf 0 (by simp)
  have z1:w6.cell? ⟨w.heap.size,1,none⟩=some (.string ⟨#[]⟩):=zk 1 (by simp)
  have y1:=zf 1 (by simp)
  have z2:w6.cell? ⟨w.heap.size,2,none⟩=some (.string ⟨#[]⟩):=zk 2 (by simp)
  have y2:=zf 2 (by simp)
  have z3:w6.cell? ⟨w.heap.size,3,none⟩=some (.int .i64 0):=zk 3 (by simp)
  have y3:=zf 3 (by simp)
  have z4:w6.cell? ⟨w.heap.size,4,none⟩=some (.int .i64 0):=zk 4 (by simp)
  have y4:=zf 4 (by simp)
  have z5:w6.cell? ⟨w.heap.size,5,none⟩=some (.string ⟨#[]⟩):=zk 5 (by simp)
  have y5:=zf 5 (by simp)
  have f3:=vf 3 (by simp)
  clear vk vf zk zf
  have hV1:=HL.out
  have hV2:=HL2.out
  go_wp2_with fail
  generalize wrap64 (wrap64 (v4+60*v5)+v6)=mm at *
  refine bodyPost_ret (v:=ev t1 ⟨#[97,110,110]⟩ ⟨#[99,112,117]⟩ mm v7 t8) (by simp [ev,results,Tryd.results31,go_sem,z0,z1,z2,z3,z4,z5]) rfl ⟨⟨t1,_,_,mm,v7,t8,rfl,HH.out.1,by decide,by decide,HH.out.2.2.2⟩,?_,?_⟩
  ·exact src_set (src_set (src_set (src_set (src_set (src_set (src_set HS3.out (by omega) _ _) (by omega) _ _) (by omega) _ _) (by omega) _ _) (by omega) _ _) (by omega) _ _) (by omega) _ _
  ·exact set_new (set_new (set_new (set_new (set_new (set_new (set_new HG3.out (by omega) _ _) (Nat.le_refl _) _ _) (Nat.le_refl _) _ _) (Nat.le_refl _) _ _) (Nat.le_refl _) _ _) (Nat.le_refl _) _ _) (Nat.le_refl _) _ _
 ·obtain ⟨⟨vl,vk⟩,vf⟩:=HV.out
  obtain ⟨⟨zl,zk⟩,zf⟩:=HR.out
  have x0:w2.cell? ⟨V,0,none⟩=some (.string t1):=vk 0 (by simp)
  have x1:w2.cell? ⟨V,1,none⟩=some (.string t2):=vk 1 (by simp)
  have x2:w2.cell? ⟨V,2,none⟩=some (.string t3):=vk 2 (by simp)
  have x3:w2.cell? ⟨V,3,none⟩=some (.int .i64 nn):=vk 3 (by simp)
  have x4:w2.cell? ⟨V,4,none⟩=some (.int .i64 v7):=vk 4 (by simp)
  have x5:w2.cell? ⟨V,5,none⟩=some (.string t8):=vk 5 (by simp)
  have z0:w2.cell? ⟨w.heap.size,0,none⟩=some (.string ⟨#[]⟩):=zk 0 (by simp)
  have y0:=zf 0 (by simp)
  have z1:w2.cell? ⟨w.heap.size,1,none⟩=some (.string ⟨#[]⟩):=zk 1 (by simp)
  have y1:=zf 1 (by simp)
  have z2:w2.cell? ⟨w.heap.size,2,none⟩=some (.string ⟨#[]⟩):=zk 2 (by simp)
  have y2:=zf 2 (by simp)
  have z3:w2.cell? ⟨w.heap.size,3,none⟩=some (.int .i64 0):=zk 3 (by simp)
  have y3:=zf 3 (by simp)
  have z4:w2.cell? ⟨w.heap.size,4,none⟩=some (.int .i64 0):=zk 4 (by simp)
  have y4:=zf 4 (by simp)
  have z5:w2.cell? ⟨w.heap.size,5,none⟩=some (.string ⟨#[]⟩):=zk 5 (by simp)
  have y5:=zf 5 (by simp)
  clear vk vf zk zf
  have hV1:=HL.out
  have hV2:=HL2.out
  go_wp2_with fail
  refine bodyPost_ret (v:=ev t1 t2 t3 nn v7 t8) (by simp [ev,results,Tryd.results31,go_sem,z0,z1,z2,z3,z4,z5]) rfl ⟨⟨t1,t2,t3,nn,v7,t8,rfl,HH.out.1,HH.out.2.1,HH.out.2.2.1,HH.out.2.2.2⟩,?_,?_⟩
  ·exact src_set (src_set (src_set (src_set (src_set (src_set HS.out (by omega) _ _) (by omega) _ _) (by omega) _ _) (by omega) _ _) (by omega) _ _) (by omega) _ _
  ·exact set_new (set_new (set_new (set_new (set_new (set_new HG.out (Nat.le_refl _) _ _) (Nat.le_refl _) _ _) (Nat.le_refl _) _ _) (Nat.le_refl _) _ _) (Nat.le_refl _) _ _) (Nat.le_refl _) _ _
theorem hr_lt {hs:List H} {ha:Option Addr} {W:World} (h:Hrs ha hs W):hs.length=0∨∀b off,ha=some ⟨b,off,none⟩→b≠W.heap.size:=by
 rcases h with h0|⟨b',off',rfl,hl,_⟩
 ·exact .inl h0
 ·exact .inr (fun b off e=>by cases e;omega)
structure WdD (ao:Option Addr) (len cap g:Nat) (w:World) (V:Nat) (y:Wd) (ta:Option Addr) (tc:Nat) (ha:Option Addr) (hc:Nat) (W:World):Prop where
 src:Src ao len cap g W
 gr:w.grownBy W (some g)
 res:BW w.heap.size [.string ⟨#[]⟩,.string ⟨#[]⟩,.int .i64 0,.int .i64 0,.int .i64 0,.int .i64 0,.slice none 0 0,.slice none 0 0] W
 box:BW V [.string y.a,.string y.m,.int .i64 y.mo,.int .i64 y.ev,.int .i64 y.su,.int .i64 y.mx,.slice ta y.ts.length tc,.slice ha y.hs.length hc] W
 own:WdO (w.heap.size+1) y ta tc ha hc W
 gl:g<w.heap.size
 vl:w.heap.size<V
 nt:∀b off,ta=some ⟨b,off,none⟩→b≠V
 nh:y.hs.length=0∨∀b off,ha=some ⟨b,off,none⟩→b≠V
 ty:∃cs:Array Value,W.heap[V]? = some (.cells cs 26 (0,0))
section
variable {ao:Option Addr} {len cap g B:Nat} {w:World} {V:Nat} {y:Wd} {ta:Option Addr} {tc:Nat} {ha:Option Addr} {hc:Nat} {W W':World}
theorem WdD.step (h:WdD ao len cap g w V y ta tc ha hc W) (hS:Src ao len cap g W') (hg:W.grownBy W' (some g)):WdD ao len cap g w V y ta tc ha hc W' :=
 ⟨hS,Lib.grownBy_trans h.gr hg,bw_gr h.res hg (by have:=h.gl;simp;omega),bw_gr h.box hg (by have:=h.gl;have:=h.vl;simp;omega),h.own.kept hg (by have:=h.gl;omega),h.gl,h.vl,h.nt,h.nh,h.ty.imp (fun cs e=>(hg.block V h.box.1.1 (by have:=h.gl;have:=h.vl;simp;omega)).trans e)⟩
theorem WdD.below (h:WdD ao len cap g w V y ta tc ha hc W) (hb:Below W.heap.size W W'):WdD ao len cap g w V y ta tc ha hc W' :=
 ⟨h.src.kept (rgrown hb none) (fun k e=>by cases e),Lib.grownBy_trans h.gr (rgrown hb (some g)),h.res.below hb,h.box.below hb,h.own.below hb,h.gl,h.vl,h.nt,h.nh,h.ty.imp (fun cs e=>(hb.block V h.box.1.1).trans e)⟩
theorem WdD.held (h:WdD ao len cap g w V y ta tc ha hc W):V<W.heap.size∧W.cell? ⟨V,0,none⟩=some (.string y.a)∧W.cell? ⟨V,1,none⟩=some (.string y.m)∧W.cell? ⟨V,2,none⟩=some (.int .i64 y.mo)∧W.cell? ⟨V,3,none⟩=some (.int .i64 y.ev)∧W.cell? ⟨V,4,none⟩=some (.int .i64 y.su)∧W.cell? ⟨V,5,none⟩=some (.int .i64 y.mx)∧W.cell? ⟨V,6,none⟩=some (.slice ta y.ts.length tc)∧W.cell? ⟨V,7,none⟩=some (.slice ha y.hs.length hc):=⟨h.box.1.1,h.box.1.2 0 (by simp),h.box.1.2 1 (by simp),h.box.1.2 2 (by simp),h.box.1.2 3 (by simp),h.box.1.2 4 (by simp),h.box.1.2 5 (by simp),h.box.1.2 6 (by simp),h.box.1.2 7 (by simp)⟩
theorem WdD.row {U:Nat} (h:WdD ao len cap g w V y ta tc ha hc W) (hg:W.grownBy W' (some U)) (hU:w.heap.size<U) (hV:U≠V) (nt:∀b off,ta=some ⟨b,off,none⟩→b≠U) (nh:y.hs.length=0∨∀b off,ha=some ⟨b,off,none⟩→b≠U):WdD ao len cap g w V y ta tc ha hc W' :=
 ⟨h.src.kept hg (fun k e=>by cases e;have:=h.gl;omega),h.gr.andThen hg (fun k e=>by cases e;exact .inl (by omega)),bw_gr h.res hg (by simp;omega),bw_gr h.box hg (by simp;omega),h.own.far hg nt nh,h.gl,h.vl,h.nt,h.nh,h.ty.imp (fun cs e=>(hg.block V h.box.1.1 (by simp;omega)).trans e)⟩
def Zok (w:World) (V U:Nat) (z:Wd) (ta':Option Addr) (tc':Nat) (ha':Option Addr) (hc':Nat) (W:World):Prop:=Sm 12 z∧WdO (w.heap.size+1) z ta' tc' ha' hc' W∧(∀b off,ta'=some ⟨b,off,none⟩→b≠V∧b≠U)∧(z.hs.length=0∨∀b off,ha'=some ⟨b,off,none⟩→b≠V∧b≠U)
theorem Zok.up {U:Nat} {z:Wd} {ta':Option Addr} {tc':Nat} {ha':Option Addr} {hc':Nat} (h:Zok w V U z ta' tc' ha' hc' W) (hb:Below W.heap.size W W'):Zok w V W.heap.size z ta' tc' ha' hc' W':=by
 obtain ⟨h1,h2,h3,h4⟩:=h
 refine ⟨h1,h2.below hb,fun b off e=>⟨(h3 b off e).1,fun q=>?_⟩,?_⟩
 ·subst e
  have:=(h2.tg.2.lt _ rfl).2
  exact absurd (show b<W.heap.size from this) (by omega)
 ·rcases h4 with h0|h4
  ·exact .inl h0
  ·rcases hr_lt h2.hr with h0|h5
   ·exact .inl h0
   ·exact .inr (fun b off e=>⟨(h4 b off e).1,h5 b off e⟩)
theorem Zok.row {U:Nat} {z:Wd} {ta':Option Addr} {tc':Nat} {ha':Option Addr} {hc':Nat} (h:Zok w V U z ta' tc' ha' hc' W) (hg:W.grownBy W' (some U)):Zok w V U z ta' tc' ha' hc' W' :=
 ⟨h.1,h.2.1.far hg (fun b off e=>(h.2.2.1 b off e).2) (h.2.2.2.imp id (fun q b off e=>(q b off e).2)),h.2.2⟩
theorem WdD.slk (h:WdD ao len cap g w V y ta tc ha hc W):WinR.SlOk ta y.ts.length tc∧WinR.SlOk ha y.hs.length hc:=⟨WinR.own_slok h.own.tg.2,h.own.sl⟩
theorem WdD.put {z:Wd} {ta':Option Addr} {tc':Nat} {ha':Option Addr} {hc':Nat} (h:WdD ao len cap g w V y ta tc ha hc W) (ho:WdO (w.heap.size+1) z ta' tc' ha' hc' W) (nt:∀b off,ta'=some ⟨b,off,none⟩→b≠V) (nh:z.hs.length=0∨∀b off,ha'=some ⟨b,off,none⟩→b≠V) :
 WdD ao len cap g w V z ta' tc' ha' hc' ((((((((W.setCell ⟨V,0,none⟩ (.string z.a)).setCell ⟨V,1,none⟩ (.string z.m)).setCell ⟨V,2,none⟩ (.int .i64 z.mo)).setCell ⟨V,3,none⟩ (.int .i64 z.ev)).setCell ⟨V,4,none⟩ (.int .i64 z.su)).setCell ⟨V,5,none⟩ (.int .i64 z.mx)).setCell ⟨V,6,none⟩ (.slice ta' z.ts.length tc')).setCell ⟨V,7,none⟩ (.slice ha' z.hs.length hc')):=by
 have hgf:=StR.stL_grown V [.string z.a,.string z.m,.int .i64 z.mo,.int .i64 z.ev,.int .i64 z.su,.int .i64 z.mx,.slice ta' z.ts.length tc',.slice ha' z.hs.length hc'] 0 W
 have hv:=h.vl
 have hg:=h.gl
 have q1:=h.src.kept hgf (fun k e=>by cases e;omega)
 have q2:=h.gr.andThen hgf (fun k e=>by cases e;exact .inl (by omega))
 have q3:=bw_gr h.res hgf (by simp;omega)
 have q5:=ho.far hgf nt nh
 have q4:=(((((((h.box.set 0 (.string z.a) (by simp)).set 1 (.string z.m) (by simp)).set 2 (.int .i64 z.mo) (by simp)).set 3 (.int .i64 z.ev) (by simp)).set 4 (.int .i64 z.su) (by simp)).set 5 (.int .i64 z.mx) (by simp)).set 6 (.slice ta' z.ts.length tc') (by simp)).set 7 (.slice ha' z.hs.length hc') (by simp)
 simp only [StR.stL,Nat.zero_add,Nat.reduceAdd] at q1 q2 q3 q5
 simp only [List.set_cons_zero,List.set_cons_succ] at q4
 refine ⟨q1,q2,q3,q4,q5,hg,hv,nt,nh,?_⟩
 obtain ⟨cs,e⟩:=h.ty
 exact ⟨_,Lib.heap_setCell_same (Lib.heap_setCell_same (Lib.heap_setCell_same (Lib.heap_setCell_same (Lib.heap_setCell_same (Lib.heap_setCell_same (Lib.heap_setCell_same (Lib.heap_setCell_same e _) _) _) _) _) _) _) _⟩
def WdF (B:Nat) (y:Wd) (ta ha:Option Addr) (W:World):Prop:=Tgs ta y.ts W∧Hrs ha y.hs W∧(∀b off,ta=some ⟨b,off,none⟩→B≤b)∧(y.hs.length=0∨∀b off,ha=some ⟨b,off,none⟩→B≤b)
theorem wdf (h:WdO B y ta tc ha hc W):WdF B y ta ha W:=⟨h.tg.1,h.hr,h.tg.ge,h.hb⟩
theorem WdF.far {p:Nat} (h:WdF B y ta ha W) (hg:W.grownBy W' (some p)) (nt:∀b off,ta=some ⟨b,off,none⟩→b≠p) (nh:y.hs.length=0∨∀b off,ha=some ⟨b,off,none⟩→b≠p):WdF B y ta ha W' :=
 ⟨h.1.grown hg (.inr (fun b off e q=>nt b off e (by simpa using q))),WinR.Rws.keep h.2.1 hg nh,h.2.2⟩
theorem WdF.kept {p:Nat} (h:WdF B y ta ha W) (hg:W.grownBy W' (some p)) (hp:p<B):WdF B y ta ha W' :=
 h.far hg (fun b off e=>by have:=h.2.2.1 b off e;omega) (h.2.2.2.imp id (fun q b off e=>by have:=q b off e;omega))
theorem WdF.below (h:WdF B y ta ha W) (hb:Below W.heap.size W W'):WdF B y ta ha W':=⟨h.1.below hb,h.2.1.below hb,h.2.2⟩
theorem WdF.low {B':Nat} (h:WdF B y ta ha W) (hB:B'≤B):WdF B' y ta ha W:=⟨h.1,h.2.1,fun b off e=>Nat.le_trans hB (h.2.2.1 b off e),h.2.2.2.imp id (fun q b off e=>Nat.le_trans hB (q b off e))⟩
def WdEnd (ao:Option Addr) (len cap g:Nat) (w:World) (y:Wd) (ta ha:Option Addr) (W:World):Prop:=WdF (w.heap.size+1) y ta ha W∧Src ao len cap g W∧w.grownBy W (some g)∧g<w.heap.size
theorem WdD.fin (h:WdD ao len cap g w V y ta tc ha hc W):WdEnd ao len cap g w y ta ha W:=⟨wdf h.own,h.src,h.gr,h.gl⟩
theorem WdEnd.set (h:WdEnd ao len cap g w y ta ha W) {p:Nat} (hp:w.heap.size≤p) (nt:∀b off,ta=some ⟨b,off,none⟩→b≠p) (nh:y.hs.length=0∨∀b off,ha=some ⟨b,off,none⟩→b≠p) (o:Nat) (v:Value):WdEnd ao len cap g w y ta ha (W.setCell ⟨p,o,none⟩ v):=by
 have hg:=h.2.2.2
 exact ⟨h.1.far (rset W p o v) nt nh,src_set h.2.1 (by omega) o v,set_new h.2.2.1 hp o v,hg⟩
theorem WdEnd.ret (h:WdEnd ao len cap g w y ta ha W) (vs:List Value):WdF w.heap.size y ta ha (StR.stL W w.heap.size 0 vs)∧Src ao len cap g (StR.stL W w.heap.size 0 vs)∧w.grownBy (StR.stL W w.heap.size 0 vs) (some g):=by
 have hgf:=StR.stL_grown w.heap.size vs 0 W
 have hg:=h.2.2.2
 exact ⟨(h.1.kept hgf (by omega)).low (by omega),h.2.1.kept hgf (fun k e=>by cases e;omega),h.2.2.1.andThen hgf (fun k e=>by cases e;exact .inl (Nat.le_refl _))⟩
theorem tag_more {T:ByteArray} {v':Value} (h:WdD ao len cap g w V y ta tc ha hc W) (hown:W'.ownsRow (w.heap.size+1) 9 1 v' (y.ts.length+1) (RowG.cellsAll WinR.tcells y.ts ++ [.string T])) (hg:W.grownBy W' (Value.slice ta y.ts.length tc).ownBlock) :
 ∃ta' tc',v'=.slice ta' (y.ts.length+1) tc'∧WdEnd ao len cap g w {y with ts:=y.ts ++ [T]} ta' ha W'∧(∀b off,ta'=some ⟨b,off,none⟩→b≠V)∧BW V [.string y.a,.string y.m,.int .i64 y.mo,.int .i64 y.ev,.int .i64 y.su,.int .i64 y.mx,.slice ta y.ts.length tc,.slice ha y.hs.length hc] W'∧BW w.heap.size [.string ⟨#[]⟩,.string ⟨#[]⟩,.int .i64 0,.int .i64 0,.int .i64 0,.int .i64 0,.slice none 0 0,.slice none 0 0] W'∧WinR.SlOk ta' (y.ts.length+1) tc':=by
 have hown2:W'.ownsRow (w.heap.size+1) 9 1 v' (y.ts ++ [T]).length (RowG.cellsAll WinR.tcells (y.ts ++ [T])):=by
  have e:RowG.cellsAll WinR.tcells (y.ts ++ [T])=RowG.cellsAll WinR.tcells y.ts ++ [.string T]:=by simp [RowG.cellsAll,WinR.tcells]
  rw [List.length_append,e];exact hown
 have hob:∀k,(Value.slice ta y.ts.length tc).ownBlock=some k→w.heap.size+1≤k∧k≠V:=fun k hk=>by
  cases ta with
  | none=>cases hk
  | some ad =>
   have h1:=(h.own.tg.2.lt k hk).1
   rcases h.own.tg.2.2 with ⟨h0,_⟩|⟨g',cap',cur,hv,_⟩
   ·cases h0
   ·simp only [Value.slice.injEq,Option.some.injEq] at hv
    obtain ⟨rfl,_⟩:=hv
    simp only [Value.ownBlock,Option.some.injEq] at hk
    subst hk
    exact ⟨h1,h.nt _ _ rfl⟩
 have hVl:=h.vl
 have hgl:=h.gl
 obtain ⟨cs,hty⟩:=h.ty
 have hty2:W'.heap[V]? = some (.cells cs 26 (0,0)):=(hg.block V h.box.1.1 (fun e=>(hob V e.symm).2 rfl)).trans hty
 obtain ⟨ta',tc',rfl,hm⟩:=RowG.own_made (z:=WinR.tz) WinR.t_len hown2
 have hslk:=WinR.own_slok hown2
 rw [List.length_append] at *
 refine ⟨ta',tc',rfl,⟨⟨hm.rws,?_,fun b off e=>?_,h.own.hb⟩,h.src.kept hg (fun k e=>by have:=(hob k e).1;omega),h.gr.andThen hg (fun k e=>.inl (by have:=(hob k e).1;omega)),hgl⟩,fun b off e=>?_,bw_gr h.box hg (fun e=>(hob V e.symm).2 rfl),bw_gr h.res hg (fun e=>by have:=(hob _ e.symm).1;omega),hslk⟩
 ·refine RowG.Rws.grown h.own.hr hg ?_
  refine .inr (fun b off e q=>?_)
  cases ta with
  | none=>cases q
  | some ad =>
   rcases h.own.tg.2.2 with ⟨h0,_⟩|⟨g',cap',cur,hv,_⟩
   ·cases h0
   ·simp only [Value.slice.injEq,Option.some.injEq] at hv
    obtain ⟨rfl,_⟩:=hv
    simp only [Value.ownBlock,Option.some.injEq] at q
    exact h.own.ne _ _ b off rfl e q.symm
 ·subst e
  exact (hown.lt b rfl).1
 ·subst e
  exact WinR.own_ne_heap hown hty2 (by decide) b rfl
end
def WdOut (ao:Option Addr) (len cap g:Nat) (w:World) (e:Ending) (w':World):Prop:=∃(y:Wd) (ta:Option Addr) (tc:Nat) (ha:Option Addr) (hc:Nat),e=.returned (.agg (wcells y ta tc ha hc))∧Sm 13 y∧WdF w.heap.size y ta ha w'∧Src ao len cap g w'∧w.grownBy w' (some g)∧WinR.SlOk ta y.ts.length tc∧WinR.SlOk ha y.hs.length hc
end DrawR
end Go.Proofs.YteejpnkmnmoebaaDoor
