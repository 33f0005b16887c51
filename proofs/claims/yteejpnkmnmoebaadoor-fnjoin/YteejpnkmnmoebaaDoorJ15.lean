/-
  A window's lists, and their room. No condition.
  The draws of the law on joining: spec.DrawWindowJoin, spec.DrawValueOf. The condition: at most 1048576 bytes to draw from.
  A window handed back with its code. No condition.
  Windows that are the same, held against each other by the law. The condition: at most 1048576 tags and hours.
-/
import Derived.BigQuiet
import Derived.Deep.QuietTactic
import Derived.Deep.RegionHeld3
import Derived.Test.YteejpnkmnmoebaaDoorJ14
namespace Go.Proofs.YteejpnkmnmoebaaDoor
open Go.ChangeShapes Go.WideShapes Go.ChangeAt Go.RowKit
set_option linter.unusedVariables false
namespace WinR
structure WdP (z:Wd) (ta:Option Addr) (tc:Nat) (ha:Option Addr) (hc:Nat) (W:World):Prop where
 tg:Tgs ta z.ts W
 hr:Hrs ha z.hs W
 s1:SlOk ta z.ts.length tc
 s2:SlOk ha z.hs.length hc
theorem WdP.below {z:Wd} {ta:Option Addr} {tc:Nat} {ha:Option Addr} {hc:Nat} {W W':World} (h:WdP z ta tc ha hc W) (hb:Below W.heap.size W W'):WdP z ta tc ha hc W':=⟨h.tg.below hb,h.hr.below hb,h.s1,h.s2⟩
structure WdB (base:Nat) (z:Wd) (ta ha:Option Addr):Prop where
 t:z.ts.length=0∨∀b off,ta=some ⟨b,off,none⟩→base≤b
 h:z.hs.length=0∨∀b off,ha=some ⟨b,off,none⟩→base≤b
structure WdX (g:Nat) (z:Wd) (ta ha:Option Addr):Prop where
 t:z.ts.length=0∨∀b off,ta=some ⟨b,off,none⟩→b≠g
 h:z.hs.length=0∨∀b off,ha=some ⟨b,off,none⟩→b≠g
section
variable {z:Wd} {ta:Option Addr} {tc:Nat} {ha:Option Addr} {hc:Nat} {W W':World} {g base:Nat}
theorem WdB.apart (h:WdB base z ta ha) (hg:g<base):WdX g z ta ha:=⟨h.t.imp id (fun q b off e=>by have:=q b off e;omega),h.h.imp id (fun q b off e=>by have:=q b off e;omega)⟩
theorem rws_lt {α:Type} {k:Nat} {cells:α→List Value} {z:α} {ao:Option Addr} {xs:List α} (h:RowG.Rws k cells z ao xs W):xs.length=0∨∀b off,ao=some ⟨b,off,none⟩→b<W.heap.size:=by
 rcases h with h0|⟨b',o',e,hl,_⟩
 ·exact .inl h0
 ·refine .inr (fun b off q=>?_)
  rw [e] at q
  simp only [Option.some.injEq,Addr.mk.injEq,and_true] at q
  omega
theorem WdP.apart (h:WdP z ta tc ha hc W) (hg:W.heap.size≤g):WdX g z ta ha:=⟨(rws_lt h.tg).imp id (fun q b off e=>by have:=q b off e;omega),(rws_lt h.hr).imp id (fun q b off e=>by have:=q b off e;omega)⟩
theorem WdP.far (h:WdP z ta tc ha hc W) (hg:W.grownBy W' (some g)) (hx:WdX g z ta ha):WdP z ta tc ha hc W':=⟨Rws.keep h.tg hg hx.t,Rws.keep h.hr hg hx.h,h.s1,h.s2⟩
end
end WinR
namespace DrawR
open WinR (Wd Sm wcells WdP)
open CatR (Blk Blk.new)
open EvtR (Pt)
theorem jbelow_at {w w1 w2:World} (hb:Below w.heap.size w w1) {x:Nat} (hg:w1.grownBy w2 (some x)) (hx:w.heap.size≤x):Below w.heap.size w w2 :=
 hb.grown hg hb.size (fun k e=>by cases e;exact hx)
theorem bw_stL {b:Nat} {cs vs:List Value} {w:World} (h:BW b cs w) (hl:vs.length=cs.length):BW b vs (StR.stL w b 0 vs):=by
 have hp:Pt b cs.length w:=⟨h.1.1,fun o ho=>⟨cs[o],(h.1.2 o ho).trans (List.getElem?_eq_getElem ho)⟩,h.2⟩
 exact ⟨StR.stL_blk hp (by omega),fun i hi=>(StR.stL_pt vs 0 w hp).free i (by omega)⟩
def JnOut (w:World) (e:Ending) (w':World):Prop:=(∃(x y:Wd) (ta:Option Addr) (tc:Nat) (ha:Option Addr) (hc:Nat) (tb:Option Addr) (tbc:Nat) (hb:Option Addr) (hbc:Nat),e=.returned (.tuple #[.agg (wcells x ta tc ha hc),.agg (wcells y tb tbc hb hbc)])∧Sm 13 x∧Sm 13 y∧WdP x ta tc ha hc w'∧WdP y tb tbc hb hbc w')∧Below w.heap.size w w'
def VaOut (w:World) (e:Ending) (w':World):Prop:=(∃(x:Wd) (ta:Option Addr) (tc:Nat) (ha:Option Addr) (hc:Nat) (v:Int),e=.returned (.tuple #[.agg (wcells x ta tc ha hc),.int .i64 v])∧Sm 13 x∧WdP x ta tc ha hc w')∧Below w.heap.size w w'
set_option maxRecDepth 100000 in
set_option maxHeartbeats 8000000 in
theorem djn_any (ao:Option Addr) (len cap:Nat) (w:World) (hlen:len≤1048576) (hB:Bytes ao len w) :
 Calls Tryd.prog 4 #[.slice ao len cap] w fun e w'=>JnOut w e w':=by
 obtain ⟨W0,hW0⟩:∃z,z=(w.alloc (.cells #[.string ⟨#[]⟩,.string ⟨#[]⟩,.int .i64 0,.int .i64 0,.int .i64 0,.int .i64 0,.slice none 0 0,.slice none 0 0] 26)).alloc (.cells #[.string ⟨#[]⟩,.string ⟨#[]⟩,.int .i64 0,.int .i64 0,.int .i64 0,.int .i64 0,.slice none 0 0,.slice none 0 0] 26):=⟨_,rfl⟩
 have hB0:Below w.heap.size w W0:=by rw [hW0];exact ((Below.refl _ _).alloc (Nat.le_refl _) _).alloc (by simp) _
 have HR:Hid (BW w.heap.size [.string ⟨#[]⟩,.string ⟨#[]⟩,.int .i64 0,.int .i64 0,.int .i64 0,.int .i64 0,.slice none 0 0,.slice none 0 0] W0):=H_ (by rw [hW0];exact (bw_new w _ _).below ((Below.refl _ _).alloc (Nat.le_refl _) _))
 have HQ:Hid (BW (w.heap.size+1) [.string ⟨#[]⟩,.string ⟨#[]⟩,.int .i64 0,.int .i64 0,.int .i64 0,.int .i64 0,.slice none 0 0,.slice none 0 0] W0):=H_ (by rw [hW0];simpa using bw_new (w.alloc (.cells #[.string ⟨#[]⟩,.string ⟨#[]⟩,.int .i64 0,.int .i64 0,.int .i64 0,.int .i64 0,.slice none 0 0,.slice none 0 0] 26)) [.string ⟨#[]⟩,.string ⟨#[]⟩,.int .i64 0,.int .i64 0,.int .i64 0,.int .i64 0,.slice none 0 0,.slice none 0 0] 26)
 have hs0:W0.heap.size=w.heap.size+2:=by rw [hW0];simp
 have HB:=H_ hB0
 have h1:=H_ (source_any ao len cap W0 hlen (hB.below hB0))
 have HW:=H_ hW0
 clear hB hB0 hW0
 go_enter Tryd.func4,Tryd.ntmps4
 go_wp2_with fail
 rw [←HW.out]
 clear HW
 refine h1.out.mono ?_
 rintro e w1 ⟨rfl,hS1,hb1⟩
 have HS:=H_ hS1
 have hgl:=hS1.lt
 obtain ⟨g,hge⟩:∃g,g=W0.heap.size:=⟨_,rfl⟩
 rw [←hge] at HS hgl hb1 ⊢
 have hwg:w.heap.size+1<g:=by omega
 have hb1':Below W0.heap.size W0 w1:=by rw [←hge];exact hb1
 replace HR:=H_ (HR.out.below hb1')
 replace HQ:=H_ (HQ.out.below hb1')
 replace HB:=H_ (HB.out.trans (hb1'.mono HB.out.size))
 clear hS1 hb1 hb1' h1 hge hs0
 go_wp2_with fail
 refine (window_any ao len cap g _ HS.out).mono ?_
 rintro e w2 ⟨x,ta,tc,ha,hc,rfl,hx,hf,hS,hg,s1,s2⟩
 have hfl:g<w1.heap.size:=HS.out.lt
 replace HR:=H_ (bw_gr HR.out hg (by simp;omega))
 replace HQ:=H_ (bw_gr HQ.out hg (by simp;omega))
 replace HB:=H_ (jbelow_at HB.out hg (by omega))
 have HF:=H_ (hf.low (show g+1≤w1.heap.size from hfl))
 replace HS:=H_ hS
 have HP:=H_ (show Sm 13 x∧WinR.SlOk ta x.ts.length tc∧WinR.SlOk ha x.hs.length hc from ⟨hx,s1,s2⟩)
 clear hx hf hS hg s1 s2 hfl
 obtain ⟨tl,htl⟩:∃z,z=x.ts.length:=⟨_,rfl⟩
 obtain ⟨hl,hhl⟩:∃z,z=x.hs.length:=⟨_,rfl⟩
 unfold wcells
 rw [←htl,←hhl]
 have HTL:=H_ htl
 have HHL:=H_ hhl
 clear htl hhl
 obtain ⟨V,hV⟩:∃z,z=w2.heap.size:=⟨_,rfl⟩
 obtain ⟨w3,hw3⟩:∃z,z=w2.alloc (.cells #[.string x.a,.string x.m,.int .i64 x.mo,.int .i64 x.ev,.int .i64 x.su,.int .i64 x.mx,.slice ta tl tc,.slice ha hl hc] 26):=⟨_,rfl⟩
 have hal:Below w2.heap.size w2 w3:=by rw [hw3];exact (Below.refl _ _).alloc (Nat.le_refl _) _
 have HV:Hid (BW V [.string x.a,.string x.m,.int .i64 x.mo,.int .i64 x.ev,.int .i64 x.su,.int .i64 x.mx,.slice ta tl tc,.slice ha hl hc] w3):=H_ (by rw [hw3,hV];exact bw_new w2 [.string x.a,.string x.m,.int .i64 x.mo,.int .i64 x.ev,.int .i64 x.su,.int .i64 x.mx,.slice ta tl tc,.slice ha hl hc] _)
 have hgv:g<V:=by rw [hV];exact HS.out.lt
 replace HS:=H_ (HS.out.kept (rgrown hal none) (fun k e=>by cases e))
 replace HR:=H_ (HR.out.below hal)
 replace HQ:=H_ (HQ.out.below hal)
 replace HF:=H_ (HF.out.below hal)
 replace HB:=H_ (HB.out.trans (hal.mono HB.out.size))
 go_wp2_with fail
 rw [←hV,←hw3]
 clear hal hw3 hV
 replace HS:=H_ (HS.out.kept (rgrown (Below.refl w3.heap.size w3).drew none) (fun k e=>by cases e))
 replace HR:=H_ (HR.out.below (Below.refl w3.heap.size w3).drew)
 replace HQ:=H_ (HQ.out.below (Below.refl w3.heap.size w3).drew)
 replace HV:=H_ (HV.out.below (Below.refl w3.heap.size w3).drew)
 replace HF:=H_ (HF.out.below (Below.refl w3.heap.size w3).drew)
 replace HB:=H_ (HB.out.trans ((Below.refl w3.heap.size w3).drew.mono HB.out.size))
 refine wp_region_held_drew (S:=(fun W=>V<W.heap.size∧W.cell? ⟨V,0,none⟩=some (.string x.a)∧W.cell? ⟨V,1,none⟩=some (.string x.m)∧W.cell? ⟨V,2,none⟩=some (.int .i64 x.mo)∧W.cell? ⟨V,3,none⟩=some (.int .i64 x.ev)∧W.cell? ⟨V,4,none⟩=some (.int .i64 x.su)∧W.cell? ⟨V,5,none⟩=some (.int .i64 x.mx)∧W.cell? ⟨V,6,none⟩=some (.slice ta tl tc)∧W.cell? ⟨V,7,none⟩=some (.slice ha hl hc))) (by kernel_rfl) ⟨HV.out.1.1,HV.out.1.2 0 (by simp),HV.out.1.2 1 (by simp),HV.out.1.2 2 (by simp),HV.out.1.2 3 (by simp),HV.out.1.2 4 (by simp),HV.out.1.2 5 (by simp),HV.out.1.2 6 (by simp),HV.out.1.2 7 (by simp)⟩ (fun hHeld=>?_)
 generalize w3.drew=kd at *
 refine tk 0 (⟨some 10,.load 26 (.tmp 5),26,"l07_window.go:233",#[],none⟩) ?_
 refine tk 1 (⟨some 11,.move (.tmp 4),38,"l07_window.go:233",#[],none⟩) ?_
 refine rd 2 (⟨some 12,.call {callee:=Callee.value (.func 14),args:=#[.tmp 11],argTypes:=#[38]},26,"l07_window.go:233",#[⟨1,.data⟩],none⟩) (fun K hK=>?_)
 go_simp
 go_at_call 14
 refine (window_any ao len cap g _ HS.out).mono ?_
 rintro e q1 ⟨y,tb,tbc,hb,hbc,rfl,hy,hfy,hS,hg,s3,s4⟩
 obtain ⟨yl,hyl⟩:∃z,z=y.ts.length:=⟨_,rfl⟩
 obtain ⟨hn,hzl⟩:∃z,z=y.hs.length:=⟨_,rfl⟩
 unfold wcells
 rw [←hyl,←hzl]
 have HYL:=H_ hyl
 have HZL:=H_ hzl
 clear hyl hzl
 have hkl:g<kd.heap.size:=HS.out.lt
 have HP2:=H_ (show Sm 13 y∧WinR.SlOk tb y.ts.length tbc∧WinR.SlOk hb y.hs.length hbc from ⟨hy,s3,s4⟩)
 have hv1:=bw_gr HV.out hg (by simp;omega)
 have hr1:=bw_gr HR.out hg (by simp;omega)
 have hq1:=bw_gr HQ.out hg (by simp;omega)
 have hx1:=HF.out.kept hg (by omega)
 have hy1:=hfy.low (show g+1≤kd.heap.size from hkl)
 have hB1:=jbelow_at HB.out hg (by omega)
 clear hy s3 s4 hfy hS hg hkl HS HF HB HV HR HQ
 try go_wp2_with fail
 refine hK.out _ _ ⟨hv1.1.1,hv1.1.2 0 (by simp),hv1.1.2 1 (by simp),hv1.1.2 2 (by simp),hv1.1.2 3 (by simp),hv1.1.2 4 (by simp),hv1.1.2 5 (by simp),hv1.1.2 6 (by simp),hv1.1.2 7 (by simp)⟩ (fun _=>?_)
 clear hK K
 try simp only [Act.put,SL]
 refine rd 3 (⟨none,.store 26 (.tmp 2) (.tmp 10),0,"l07_window.go:233",#[⟨0,.data⟩,⟨2,.chain⟩,⟨0,.phase⟩,{on:=1,ground:=Ground.textOnly Departure.lateStores},{on:=2,ground:=Ground.textOnly Departure.lateStoresUnsure}],none⟩) (fun K hK=>?_)
 obtain ⟨⟨zl,zk⟩,zf⟩:=id hr1
 have z0:q1.cell? ⟨w.heap.size,0,none⟩=some (.string ⟨#[]⟩):=zk 0 (by simp)
 have fz0:=zf 0 (by simp)
 have z1:q1.cell? ⟨w.heap.size,1,none⟩=some (.string ⟨#[]⟩):=zk 1 (by simp)
 have fz1:=zf 1 (by simp)
 have z2:q1.cell? ⟨w.heap.size,2,none⟩=some (.int .i64 0):=zk 2 (by simp)
 have fz2:=zf 2 (by simp)
 have z3:q1.cell? ⟨w.heap.size,3,none⟩=some (.int .i64 0):=zk 3 (by simp)
 have fz3:=zf 3 (by simp)
 have z4:q1.cell? ⟨w.heap.size,4,none⟩=some (.int .i64 0):=zk 4 (by simp)
 have fz4:=zf 4 (by simp)
 have z5:q1.cell? ⟨w.heap.size,5,none⟩=some (.int .i64 0):=zk 5 (by simp)
 have fz5:=zf 5 (by simp)
 have z6:q1.cell? ⟨w.heap.size,6,none⟩=some (.slice none 0 0):=zk 6 (by simp)
 have fz6:=zf 6 (by simp)
 have z7:q1.cell? ⟨w.heap.size,7,none⟩=some (.slice none 0 0):=zk 7 (by simp)
 have fz7:=zf 7 (by simp)
 clear zk zf
 go_simp
 try go_wp2_with fail
 obtain ⟨s2,hs2⟩:∃z,z=StR.stL q1 w.heap.size 0 [.string x.a,.string x.m,.int .i64 x.mo,.int .i64 x.ev,.int .i64 x.su,.int .i64 x.mx,.slice ta tl tc,.slice ha hl hc]:=⟨_,rfl⟩
 have hb2:BW w.heap.size [.string x.a,.string x.m,.int .i64 x.mo,.int .i64 x.ev,.int .i64 x.su,.int .i64 x.mx,.slice ta tl tc,.slice ha hl hc] s2:=by rw [hs2];exact bw_stL hr1 rfl
 have hg2:q1.grownBy s2 (some w.heap.size):=by rw [hs2];exact StR.stL_grown _ _ 0 _
 simp only [StR.stL,Nat.zero_add,Nat.reduceAdd] at hs2
 rw [←hs2]
 clear hs2 z0 fz0 z1 fz1 z2 fz2 z3 fz3 z4 fz4 z5 fz5 z6 fz6 z7 fz7 zl
 have hv2:=bw_gr hv1 hg2 (by simp;omega)
 have hB2:=jbelow_at hB1 hg2 (by omega)
 have hx2:=(hx1).kept hg2 (by omega)
 have ho2:=bw_gr hq1 hg2 (by simp)
 have hy2:=(hy1).kept hg2 (by omega)
 refine hK.out _ _ ⟨hv2.1.1,hv2.1.2 0 (by simp),hv2.1.2 1 (by simp),hv2.1.2 2 (by simp),hv2.1.2 3 (by simp),hv2.1.2 4 (by simp),hv2.1.2 5 (by simp),hv2.1.2 6 (by simp),hv2.1.2 7 (by simp)⟩ (fun _=>?_)
 clear hK K
 try simp only [Act.put,SL]
 refine rd 4 (⟨none,.store 26 (.tmp 3) (.tmp 12),0,"l07_window.go:233",#[⟨2,.data⟩,⟨3,.chain⟩,⟨0,.phase⟩,⟨1,.phase⟩,⟨2,.phase⟩,⟨3,.phase⟩],none⟩) (fun K hK=>?_)
 obtain ⟨⟨zl,zk⟩,zf⟩:=id ho2
 have z0:s2.cell? ⟨w.heap.size+1,0,none⟩=some (.string ⟨#[]⟩):=zk 0 (by simp)
 have fz0:=zf 0 (by simp)
 have z1:s2.cell? ⟨w.heap.size+1,1,none⟩=some (.string ⟨#[]⟩):=zk 1 (by simp)
 have fz1:=zf 1 (by simp)
 have z2:s2.cell? ⟨w.heap.size+1,2,none⟩=some (.int .i64 0):=zk 2 (by simp)
 have fz2:=zf 2 (by simp)
 have z3:s2.cell? ⟨w.heap.size+1,3,none⟩=some (.int .i64 0):=zk 3 (by simp)
 have fz3:=zf 3 (by simp)
 have z4:s2.cell? ⟨w.heap.size+1,4,none⟩=some (.int .i64 0):=zk 4 (by simp)
 have fz4:=zf 4 (by simp)
 have z5:s2.cell? ⟨w.heap.size+1,5,none⟩=some (.int .i64 0):=zk 5 (by simp)
 have fz5:=zf 5 (by simp)
 have z6:s2.cell? ⟨w.heap.size+1,6,none⟩=some (.slice none 0 0):=zk 6 (by simp)
 have fz6:=zf 6 (by simp)
 have z7:s2.cell? ⟨w.heap.size+1,7,none⟩=some (.slice none 0 0):=zk 7 (by simp)
 have fz7:=zf 7 (by simp)
 clear zk zf
 go_simp
 try go_wp2_with fail
 obtain ⟨s3,hs3⟩:∃z,z=StR.stL s2 (w.heap.size+1) 0 [.string y.a,.string y.m,.int .i64 y.mo,.int .i64 y.ev,.int .i64 y.su,.int .i64 y.mx,.slice tb yl tbc,.slice hb hn hbc]:=⟨_,rfl⟩
 have hb3:BW (w.heap.size+1) [.string y.a,.string y.m,.int .i64 y.mo,.int .i64 y.ev,.int .i64 y.su,.int .i64 y.mx,.slice tb yl tbc,.slice hb hn hbc] s3:=by rw [hs3];exact bw_stL ho2 rfl
 have hg3:s2.grownBy s3 (some (w.heap.size+1)):=by rw [hs3];exact StR.stL_grown _ _ 0 _
 simp only [StR.stL,Nat.zero_add,Nat.reduceAdd] at hs3
 rw [←hs3]
 clear hs3 z0 fz0 z1 fz1 z2 fz2 z3 fz3 z4 fz4 z5 fz5 z6 fz6 z7 fz7 zl
 have hv3:=bw_gr hv2 hg3 (by simp;omega)
 have hB3:=jbelow_at hB2 hg3 (by omega)
 have hx3:=(hx2).kept hg3 (by omega)
 have ho3:=bw_gr hb2 hg3 (by simp)
 have hy3:=(hy2).kept hg3 (by omega)
 refine hK.out _ _ ⟨hv3.1.1,hv3.1.2 0 (by simp),hv3.1.2 1 (by simp),hv3.1.2 2 (by simp),hv3.1.2 3 (by simp),hv3.1.2 4 (by simp),hv3.1.2 5 (by simp),hv3.1.2 6 (by simp),hv3.1.2 7 (by simp)⟩ (fun _=>?_)
 clear hK K
 try simp only [Act.put,SL]
 refine wpAnyH_done (by kernel_rfl) ?_ _
 obtain ⟨p1,p2,p3⟩:=HP.out
 obtain ⟨p4,p5,p6⟩:=HP2.out
 have HQ:Hid (JnOut w (.returned (.tuple #[.agg #[.string x.a,.string x.m,.int .i64 x.mo,.int .i64 x.ev,.int .i64 x.su,.int .i64 x.mx,.slice ta tl tc,.slice ha hl hc],.agg #[.string y.a,.string y.m,.int .i64 y.mo,.int .i64 y.ev,.int .i64 y.su,.int .i64 y.mx,.slice tb yl tbc,.slice hb hn hbc]])) s3):=H_ (by
  have e1:=HTL.out
  have e2:=HHL.out
  have e3:=HYL.out
  have e4:=HZL.out
  subst e1 e2 e3 e4
  exact ⟨⟨x,y,ta,tc,ha,hc,tb,tbc,hb,hbc,rfl,p1,p4,⟨hx3.1,hx3.2.1,p2,p3⟩,⟨hy3.1,hy3.2.1,p5,p6⟩⟩,hB3⟩)
 obtain ⟨⟨cl,ck⟩,cf⟩:=id ho3
 have c0:s3.cell? ⟨w.heap.size,0,none⟩=some (.string x.a):=ck 0 (by simp)
 have fc0:=cf 0 (by simp)
 have c1:s3.cell? ⟨w.heap.size,1,none⟩=some (.string x.m):=ck 1 (by simp)
 have fc1:=cf 1 (by simp)
 have c2:s3.cell? ⟨w.heap.size,2,none⟩=some (.int .i64 x.mo):=ck 2 (by simp)
 have fc2:=cf 2 (by simp)
 have c3:s3.cell? ⟨w.heap.size,3,none⟩=some (.int .i64 x.ev):=ck 3 (by simp)
 have fc3:=cf 3 (by simp)
 have c4:s3.cell? ⟨w.heap.size,4,none⟩=some (.int .i64 x.su):=ck 4 (by simp)
 have fc4:=cf 4 (by simp)
 have c5:s3.cell? ⟨w.heap.size,5,none⟩=some (.int .i64 x.mx):=ck 5 (by simp)
 have fc5:=cf 5 (by simp)
 have c6:s3.cell? ⟨w.heap.size,6,none⟩=some (.slice ta tl tc):=ck 6 (by simp)
 have fc6:=cf 6 (by simp)
 have c7:s3.cell? ⟨w.heap.size,7,none⟩=some (.slice ha hl hc):=ck 7 (by simp)
 have fc7:=cf 7 (by simp)
 clear ck cf
 obtain ⟨⟨dl,dk⟩,df⟩:=id hb3
 have d0:s3.cell? ⟨w.heap.size+1,0,none⟩=some (.string y.a):=dk 0 (by simp)
 have fd0:=df 0 (by simp)
 have d1:s3.cell? ⟨w.heap.size+1,1,none⟩=some (.string y.m):=dk 1 (by simp)
 have fd1:=df 1 (by simp)
 have d2:s3.cell? ⟨w.heap.size+1,2,none⟩=some (.int .i64 y.mo):=dk 2 (by simp)
 have fd2:=df 2 (by simp)
 have d3:s3.cell? ⟨w.heap.size+1,3,none⟩=some (.int .i64 y.ev):=dk 3 (by simp)
 have fd3:=df 3 (by simp)
 have d4:s3.cell? ⟨w.heap.size+1,4,none⟩=some (.int .i64 y.su):=dk 4 (by simp)
 have fd4:=df 4 (by simp)
 have d5:s3.cell? ⟨w.heap.size+1,5,none⟩=some (.int .i64 y.mx):=dk 5 (by simp)
 have fd5:=df 5 (by simp)
 have d6:s3.cell? ⟨w.heap.size+1,6,none⟩=some (.slice tb yl tbc):=dk 6 (by simp)
 have fd6:=df 6 (by simp)
 have d7:s3.cell? ⟨w.heap.size+1,7,none⟩=some (.slice hb hn hbc):=dk 7 (by simp)
 have fd7:=df 7 (by simp)
 clear dk df
 go_wp2_with fail
 refine bodyPost_ret (v:=.tuple #[.agg #[.string x.a,.string x.m,.int .i64 x.mo,.int .i64 x.ev,.int .i64 x.su,.int .i64 x.mx,.slice ta tl tc,.slice ha hl hc],.agg #[.string y.a,.string y.m,.int .i64 y.mo,.int .i64 y.ev,.int .i64 y.su,.int .i64 y.mx,.slice tb yl tbc,.slice hb hn hbc]]) (by simp [results,Tryd.results4,go_sem,c0,c1,c2,c3,c4,c5,c6,c7,d0,d1,d2,d3,d4,d5,d6,d7]) rfl HQ.out
set_option maxRecDepth 100000 in
set_option maxHeartbeats 8000000 in
theorem dva_any (ao:Option Addr) (len cap:Nat) (w:World) (hlen:len≤1048576) (hB:Bytes ao len w) :
 Calls Tryd.prog 6 #[.slice ao len cap] w fun e w'=>VaOut w e w':=by
 obtain ⟨W0,hW0⟩:∃z,z=(w.alloc (.cells #[.string ⟨#[]⟩,.string ⟨#[]⟩,.int .i64 0,.int .i64 0,.int .i64 0,.int .i64 0,.slice none 0 0,.slice none 0 0] 26)):=⟨_,rfl⟩
 have hB0:Below w.heap.size w W0:=by rw [hW0];exact (Below.refl _ _).alloc (Nat.le_refl _) _
 have HR:Hid (BW w.heap.size [.string ⟨#[]⟩,.string ⟨#[]⟩,.int .i64 0,.int .i64 0,.int .i64 0,.int .i64 0,.slice none 0 0,.slice none 0 0] W0):=H_ (by rw [hW0];exact bw_new w _ _)
 have hs0:W0.heap.size=w.heap.size+1:=by rw [hW0];simp
 have HB:=H_ hB0
 have h1:=H_ (source_any ao len cap W0 hlen (hB.below hB0))
 have HW:=H_ hW0
 clear hB hB0 hW0
 go_enter Tryd.func6,Tryd.ntmps6
 go_wp2_with fail
 rw [←HW.out]
 clear HW
 refine h1.out.mono ?_
 rintro e w1 ⟨rfl,hS1,hb1⟩
 have HS:=H_ hS1
 have hgl:=hS1.lt
 obtain ⟨g,hge⟩:∃g,g=W0.heap.size:=⟨_,rfl⟩
 rw [←hge] at HS hgl hb1 ⊢
 have hwg:w.heap.size+0<g:=by omega
 have hb1':Below W0.heap.size W0 w1:=by rw [←hge];exact hb1
 replace HR:=H_ (HR.out.below hb1')
 replace HB:=H_ (HB.out.trans (hb1'.mono HB.out.size))
 clear hS1 hb1 hb1' h1 hge hs0
 go_wp2_with fail
 refine (window_any ao len cap g _ HS.out).mono ?_
 rintro e w2 ⟨x,ta,tc,ha,hc,rfl,hx,hf,hS,hg,s1,s2⟩
 have hfl:g<w1.heap.size:=HS.out.lt
 replace HR:=H_ (bw_gr HR.out hg (by simp;omega))
 replace HB:=H_ (jbelow_at HB.out hg (by omega))
 have HF:=H_ (hf.low (show g+1≤w1.heap.size from hfl))
 replace HS:=H_ hS
 have HP:=H_ (show Sm 13 x∧WinR.SlOk ta x.ts.length tc∧WinR.SlOk ha x.hs.length hc from ⟨hx,s1,s2⟩)
 clear hx hf hS hg s1 s2 hfl
 obtain ⟨tl,htl⟩:∃z,z=x.ts.length:=⟨_,rfl⟩
 obtain ⟨hl,hhl⟩:∃z,z=x.hs.length:=⟨_,rfl⟩
 unfold wcells
 rw [←htl,←hhl]
 have HTL:=H_ htl
 have HHL:=H_ hhl
 clear htl hhl
 obtain ⟨V,hV⟩:∃z,z=w2.heap.size:=⟨_,rfl⟩
 obtain ⟨w3,hw3⟩:∃z,z=w2.alloc (.cells #[.string x.a,.string x.m,.int .i64 x.mo,.int .i64 x.ev,.int .i64 x.su,.int .i64 x.mx,.slice ta tl tc,.slice ha hl hc] 26):=⟨_,rfl⟩
 have hal:Below w2.heap.size w2 w3:=by rw [hw3];exact (Below.refl _ _).alloc (Nat.le_refl _) _
 have HV:Hid (BW V [.string x.a,.string x.m,.int .i64 x.mo,.int .i64 x.ev,.int .i64 x.su,.int .i64 x.mx,.slice ta tl tc,.slice ha hl hc] w3):=H_ (by rw [hw3,hV];exact bw_new w2 [.string x.a,.string x.m,.int .i64 x.mo,.int .i64 x.ev,.int .i64 x.su,.int .i64 x.mx,.slice ta tl tc,.slice ha hl hc] _)
 have hgv:g<V:=by rw [hV];exact HS.out.lt
 replace HS:=H_ (HS.out.kept (rgrown hal none) (fun k e=>by cases e))
 replace HR:=H_ (HR.out.below hal)
 replace HF:=H_ (HF.out.below hal)
 replace HB:=H_ (HB.out.trans (hal.mono HB.out.size))
 go_wp2_with fail
 rw [←hV,←hw3]
 clear hal hw3 hV
 replace HS:=H_ (HS.out.kept (rgrown (Below.refl w3.heap.size w3).drew none) (fun k e=>by cases e))
 replace HR:=H_ (HR.out.below (Below.refl w3.heap.size w3).drew)
 replace HV:=H_ (HV.out.below (Below.refl w3.heap.size w3).drew)
 replace HF:=H_ (HF.out.below (Below.refl w3.heap.size w3).drew)
 replace HB:=H_ (HB.out.trans ((Below.refl w3.heap.size w3).drew.mono HB.out.size))
 refine wp_region_held_drew (S:=(fun W=>V<W.heap.size∧W.cell? ⟨V,0,none⟩=some (.string x.a)∧W.cell? ⟨V,1,none⟩=some (.string x.m)∧W.cell? ⟨V,2,none⟩=some (.int .i64 x.mo)∧W.cell? ⟨V,3,none⟩=some (.int .i64 x.ev)∧W.cell? ⟨V,4,none⟩=some (.int .i64 x.su)∧W.cell? ⟨V,5,none⟩=some (.int .i64 x.mx)∧W.cell? ⟨V,6,none⟩=some (.slice ta tl tc)∧W.cell? ⟨V,7,none⟩=some (.slice ha hl hc))) (by kernel_rfl) ⟨HV.out.1.1,HV.out.1.2 0 (by simp),HV.out.1.2 1 (by simp),HV.out.1.2 2 (by simp),HV.out.1.2 3 (by simp),HV.out.1.2 4 (by simp),HV.out.1.2 5 (by simp),HV.out.1.2 6 (by simp),HV.out.1.2 7 (by simp)⟩ (fun hHeld=>?_)
 generalize w3.drew=kd at *
 refine tk 0 (⟨some 10,.load 26 (.tmp 5),26,"l07_window.go:239",#[],none⟩) ?_
 refine tk 1 (⟨some 11,.move (.tmp 4),38,"l07_window.go:239",#[],none⟩) ?_
 refine rd 2 (⟨some 12,.call {callee:=Callee.value (.func 19),args:=#[.tmp 11,.const (Value.int IntKind.i64 6)],argTypes:=#[38,2]},2,"l07_window.go:239",#[⟨1,.data⟩],none⟩) (fun K hK=>?_)
 go_simp
 go_at_call 19
 refine (n_any ao len cap g 6 _ (by omega) HS.out).mono ?_
 rintro e q1 ⟨v4,rfl,lo4,_,hi4,hS,hg⟩
 have hv1:=bw_gr HV.out hg (by simp;omega)
 have hr1:=bw_gr HR.out hg (by simp;omega)
 have hx1:=HF.out.kept hg (by omega)
 have hB1:=jbelow_at HB.out hg (by omega)
 clear lo4 hi4 hS hg HS HF HB HV HR
 try go_wp2_with fail
 refine hK.out _ _ ⟨hv1.1.1,hv1.1.2 0 (by simp),hv1.1.2 1 (by simp),hv1.1.2 2 (by simp),hv1.1.2 3 (by simp),hv1.1.2 4 (by simp),hv1.1.2 5 (by simp),hv1.1.2 6 (by simp),hv1.1.2 7 (by simp)⟩ (fun _=>?_)
 clear hK K
 try simp only [Act.put,SL]
 refine rd 3 (⟨none,.store 26 (.tmp 2) (.tmp 10),0,"l07_window.go:239",#[⟨0,.data⟩,⟨2,.chain⟩,⟨0,.phase⟩,{on:=1,ground:=Ground.textOnly Departure.lateStores},{on:=2,ground:=Ground.textOnly Departure.lateStoresUnsure}],none⟩) (fun K hK=>?_)
 obtain ⟨⟨zl,zk⟩,zf⟩:=id hr1
 have z0:q1.cell? ⟨w.heap.size,0,none⟩=some (.string ⟨#[]⟩):=zk 0 (by simp)
 have fz0:=zf 0 (by simp)
 have z1:q1.cell? ⟨w.heap.size,1,none⟩=some (.string ⟨#[]⟩):=zk 1 (by simp)
 have fz1:=zf 1 (by simp)
 have z2:q1.cell? ⟨w.heap.size,2,none⟩=some (.int .i64 0):=zk 2 (by simp)
 have fz2:=zf 2 (by simp)
 have z3:q1.cell? ⟨w.heap.size,3,none⟩=some (.int .i64 0):=zk 3 (by simp)
 have fz3:=zf 3 (by simp)
 have z4:q1.cell? ⟨w.heap.size,4,none⟩=some (.int .i64 0):=zk 4 (by simp)
 have fz4:=zf 4 (by simp)
 have z5:q1.cell? ⟨w.heap.size,5,none⟩=some (.int .i64 0):=zk 5 (by simp)
 have fz5:=zf 5 (by simp)
 have z6:q1.cell? ⟨w.heap.size,6,none⟩=some (.slice none 0 0):=zk 6 (by simp)
 have fz6:=zf 6 (by simp)
 have z7:q1.cell? ⟨w.heap.size,7,none⟩=some (.slice none 0 0):=zk 7 (by simp)
 have fz7:=zf 7 (by simp)
 clear zk zf
 go_simp
 try go_wp2_with fail
 obtain ⟨s2,hs2⟩:∃z,z=StR.stL q1 w.heap.size 0 [.string x.a,.string x.m,.int .i64 x.mo,.int .i64 x.ev,.int .i64 x.su,.int .i64 x.mx,.slice ta tl tc,.slice ha hl hc]:=⟨_,rfl⟩
 have hb2:BW w.heap.size [.string x.a,.string x.m,.int .i64 x.mo,.int .i64 x.ev,.int .i64 x.su,.int .i64 x.mx,.slice ta tl tc,.slice ha hl hc] s2:=by rw [hs2];exact bw_stL hr1 rfl
 have hg2:q1.grownBy s2 (some w.heap.size):=by rw [hs2];exact StR.stL_grown _ _ 0 _
 simp only [StR.stL,Nat.zero_add,Nat.reduceAdd] at hs2
 rw [←hs2]
 clear hs2 z0 fz0 z1 fz1 z2 fz2 z3 fz3 z4 fz4 z5 fz5 z6 fz6 z7 fz7 zl
 have hv2:=bw_gr hv1 hg2 (by simp;omega)
 have hB2:=jbelow_at hB1 hg2 (by omega)
 have hx2:=(hx1).kept hg2 (by omega)
 refine hK.out _ _ ⟨hv2.1.1,hv2.1.2 0 (by simp),hv2.1.2 1 (by simp),hv2.1.2 2 (by simp),hv2.1.2 3 (by simp),hv2.1.2 4 (by simp),hv2.1.2 5 (by simp),hv2.1.2 6 (by simp),hv2.1.2 7 (by simp)⟩ (fun _=>?_)
 clear hK K
 try simp only [Act.put,SL]
 refine tk 4 (⟨some 3,.assign (.tmp 12),2,"l07_window.go:239",#[⟨2,.data⟩,⟨3,.chain⟩,⟨0,.phase⟩,⟨1,.phase⟩,⟨2,.phase⟩,⟨3,.phase⟩],none⟩) ?_
 refine wpAnyH_done (by kernel_rfl) ?_ _
 obtain ⟨p1,p2,p3⟩:=HP.out
 have HQ:Hid (VaOut w (.returned (.tuple #[.agg #[.string x.a,.string x.m,.int .i64 x.mo,.int .i64 x.ev,.int .i64 x.su,.int .i64 x.mx,.slice ta tl tc,.slice ha hl hc],.int .i64 v4])) s2):=H_ (by
  have e1:=HTL.out
  have e2:=HHL.out
  subst e1 e2
  exact ⟨⟨x,ta,tc,ha,hc,v4,rfl,p1,⟨hx2.1,hx2.2.1,p2,p3⟩⟩,hB2⟩)
 obtain ⟨⟨cl,ck⟩,cf⟩:=id hb2
 have c0:s2.cell? ⟨w.heap.size,0,none⟩=some (.string x.a):=ck 0 (by simp)
 have fc0:=cf 0 (by simp)
 have c1:s2.cell? ⟨w.heap.size,1,none⟩=some (.string x.m):=ck 1 (by simp)
 have fc1:=cf 1 (by simp)
 have c2:s2.cell? ⟨w.heap.size,2,none⟩=some (.int .i64 x.mo):=ck 2 (by simp)
 have fc2:=cf 2 (by simp)
 have c3:s2.cell? ⟨w.heap.size,3,none⟩=some (.int .i64 x.ev):=ck 3 (by simp)
 have fc3:=cf 3 (by simp)
 have c4:s2.cell? ⟨w.heap.size,4,none⟩=some (.int .i64 x.su):=ck 4 (by simp)
 have fc4:=cf 4 (by simp)
 have c5:s2.cell? ⟨w.heap.size,5,none⟩=some (.int .i64 x.mx):=ck 5 (by simp)
 have fc5:=cf 5 (by simp)
 have c6:s2.cell? ⟨w.heap.size,6,none⟩=some (.slice ta tl tc):=ck 6 (by simp)
 have fc6:=cf 6 (by simp)
 have c7:s2.cell? ⟨w.heap.size,7,none⟩=some (.slice ha hl hc):=ck 7 (by simp)
 have fc7:=cf 7 (by simp)
 clear ck cf
 go_wp2_with fail
 refine bodyPost_ret (v:=.tuple #[.agg #[.string x.a,.string x.m,.int .i64 x.mo,.int .i64 x.ev,.int .i64 x.su,.int .i64 x.mx,.slice ta tl tc,.slice ha hl hc],.int .i64 v4]) (by simp [results,Tryd.results6,go_sem,c0,c1,c2,c3,c4,c5,c6,c7]) rfl HQ.out
end DrawR
namespace WinR
open RowG (MadeG Rws)
def ocells (z:Wd) (ta:Option Addr) (tc:Nat) (ha:Option Addr) (hc:Nat) (cd:Int):Array Value:=#[.string z.a,.string z.m,.int .i64 z.mo,.int .i64 z.ev,.int .i64 z.su,.int .i64 z.mx,.slice ta z.ts.length tc,.slice ha z.hs.length hc,.int .i64 cd]
end WinR
namespace WinR
open RowG
open CatR (Blk Blk.new)
theorem wdrewN {B:Nat} {a w:World} (h:Below B a w) (n:Nat):Below B a (w.drewN n):=⟨h.os,h.tape,h.output,h.size,h.block⟩
set_option maxRecDepth 100000 in
set_option maxHeartbeats 4000000 in
theorem lwTx_any (ao bo:Option Addr) (c d:Nat) (L:List ByteArray) (w:World) (hl:L.length≤1048576) (hI:Tgs ao L w) (hJ:Tgs bo L w) :
 Calls Tryd.prog 46 #[.slice ao L.length c,.slice bo L.length d] w fun e w'=>e=.returned (.bool true)∧Below w.heap.size w w':=by
 have HI:=H_ hI
 have HJ:=H_ hJ
 obtain ⟨ln,hln⟩:∃ln,ln=L.length:=⟨_,rfl⟩
 rw [←hln] at hl ⊢
 have HL:=H_ hln
 clear hI hJ hln
 go_enter Tryd.func46,Tryd.ntmps46
 go_wp2_with fail
 go_loopw [5] (fun z wr=>∃k:Nat,k≤ln∧z=.int .i64 k∧Hid (Below w.heap.size w wr)) (fun z _=>ln-(intOf z).toNat)
 case atStart=>exact ⟨0,by omega,rfl,H_ (Below.refl _ _)⟩
 case round =>
  obtain ⟨k,hk,rfl,HB⟩:=hrel
  by_cases hlt:k<ln
  ·have hlt2:(k:Int)<(ln:Int):=by omega
   have hkl:k<L.length:=by have:=HL.out;omega
   obtain ⟨b,off,rfl,_,c0⟩:=(HI.out.below HB.out).at k hkl
   obtain ⟨b',off',rfl,_,e0⟩:=(HJ.out.below HB.out).at k hkl
   generalize L.getD k tz=X at *
   go_wp2_with fail
   try (go_quiet (fail);go_wp2_with fail)
   go_roundw
   case rel=>exact ⟨k+1,by omega,by go_num,by first|exact HB|exact H_ (wdrewN HB.out _)⟩
   case measure=>simp [intOf];omega
  ·have hlt2:¬(k:Int)<(ln:Int):=by omega
   go_wp2_with fail
   go_ret
   exact ⟨rfl,HB.out⟩
set_option maxRecDepth 100000 in
set_option maxHeartbeats 8000000 in
theorem lwWd_in (a m:ByteArray) (mo ev su mx:Int) (ts:List ByteArray) (hs:List H) (ta:Option Addr) (tc:Nat) (ha:Option Addr) (hc:Nat) (ta':Option Addr) (tc':Nat) (ha':Option Addr) (hc':Nat) (w:World) (lt:ts.length≤1048576) (lh:hs.length≤1048576) (hT:Tgs ta ts w) (hH:Hrs ha hs w) (hT':Tgs ta' ts w) (hH':Hrs ha' hs w) :
 Calls Tryd.prog 20 #[.agg #[.string a,.string m,.int .i64 mo,.int .i64 ev,.int .i64 su,.int .i64 mx,.slice ta ts.length tc,.slice ha hs.length hc],.agg #[.string a,.string m,.int .i64 mo,.int .i64 ev,.int .i64 su,.int .i64 mx,.slice ta' ts.length tc',.slice ha' hs.length hc']] w fun e w'=>e=.returned (.bool true)∧Below w.heap.size w w':=by
 obtain ⟨tn,htn⟩:∃z,z=ts.length:=⟨_,rfl⟩
 obtain ⟨ln,hln⟩:∃z,z=hs.length:=⟨_,rfl⟩
 rw [←htn,←hln]
 rw [←hln] at lh
 obtain ⟨W0,hW0⟩:∃z,z=(w.alloc (.cells #[.string a,.string m,.int .i64 mo,.int .i64 ev,.int .i64 su,.int .i64 mx,.slice ta tn tc,.slice ha ln hc] 26)).alloc (.cells #[.string a,.string m,.int .i64 mo,.int .i64 ev,.int .i64 su,.int .i64 mx,.slice ta' tn tc',.slice ha' ln hc'] 26):=⟨_,rfl⟩
 have hB:Below w.heap.size w W0:=by rw [hW0];exact ((Below.refl _ _).alloc (Nat.le_refl _) _).alloc (by simp) _
 have HB:=H_ hB
 have hc0:=lwTx_any ta ta' tc tc' ts W0 lt (hT.below hB) (hT'.below hB)
 rw [←htn] at hc0
 have HC:=H_ hc0
 clear hc0 htn
 have HI:=H_ (hH.below hB)
 have HJ:=H_ (hH'.below hB)
 have HX:Hid (Blk w.heap.size [.string a,.string m,.int .i64 mo,.int .i64 ev,.int .i64 su,.int .i64 mx,.slice ta tn tc,.slice ha ln hc] W0):=H_ (by rw [hW0];exact (Blk.new w _ _).below ((Below.refl _ _).alloc (Nat.le_refl _) _))
 have HY:Hid (Blk (w.heap.size+1) [.string a,.string m,.int .i64 mo,.int .i64 ev,.int .i64 su,.int .i64 mx,.slice ta' tn tc',.slice ha' ln hc'] W0):=H_ (by rw [hW0];simpa using Blk.new (w.alloc (.cells #[.string a,.string m,.int .i64 mo,.int .i64 ev,.int .i64 su,.int .i64 mx,.slice ta tn tc,.slice ha ln hc] 26)) [.string a,.string m,.int .i64 mo,.int .i64 ev,.int .i64 su,.int .i64 mx,.slice ta' tn tc',.slice ha' ln hc'] 26)
 have HW:=H_ hW0
 have HL:=H_ hln
 clear hW0 hT hH hT' hH' hB hln
 go_enter Tryd.func20,Tryd.ntmps20
 go_wp2_with fail
 rw [←HW.out]
 refine HC.out.mono ?_
 rintro e w1 ⟨rfl,hb⟩
 replace HB:=H_ (HB.out.trans (hb.mono HB.out.size))
 replace HI:=H_ (HI.out.below hb)
 replace HJ:=H_ (HJ.out.below hb)
 replace HX:=H_ (HX.out.below hb)
 replace HY:=H_ (HY.out.below hb)
 clear hb HW HC
 have x7:w1.cell? ⟨w.heap.size,7,none⟩=some (.slice ha ln hc):=HX.out.2 7 (by simp)
 have y7:w1.cell? ⟨w.heap.size+1,7,none⟩=some (.slice ha' ln hc'):=HY.out.2 7 (by simp)
 have xl:=HX.out.1
 have yl:=HY.out.1
 go_wp2_with fail
 clear x7 y7 xl yl
 go_loopw [5] (fun z wr=>∃k:Nat,k≤ln∧z=.int .i64 k∧Hid (Below w1.heap.size w1 wr)) (fun z _=>ln-(intOf z).toNat)
 case atStart=>exact ⟨0,by omega,rfl,H_ (Below.refl _ _)⟩
 case round =>
  obtain ⟨k,hk,rfl,HR⟩:=hrel
  have x7:=(HX.out.below HR.out).2 7 (by simp)
  have y7:=(HY.out.below HR.out).2 7 (by simp)
  have xl:=(HX.out.below HR.out).1
  have yl:=(HY.out.below HR.out).1
  simp only [List.getElem?_cons_zero,List.getElem?_cons_succ] at x7 y7
  by_cases hlt:k<ln
  ·have hlt2:(k:Int)<(ln:Int):=by omega
   have hkl:k<hs.length:=by have:=HL.out;omega
   obtain ⟨b,off,rfl,_,c0,c1⟩:=(HI.out.below HR.out).at k hkl
   obtain ⟨b',off',rfl,_,e0,e1⟩:=(HJ.out.below HR.out).at k hkl
   generalize hs.getD k H.zero=X at *
   obtain ⟨xh,xs⟩:=X
   dsimp only at c0 c1 e0 e1
   go_wp2_with fail
   try (go_quiet (fail);go_wp2_with fail)
   go_roundw
   case rel=>exact ⟨k+1,by omega,by go_num,by first|exact HR|exact H_ (wdrewN HR.out _)⟩
   case measure=>simp [intOf];omega
  ·have hlt2:¬(k:Int)<(ln:Int):=by omega
   have HE:=H_ (HB.out.trans (HR.out.mono HB.out.size))
   go_wp2_with fail
   go_ret
   exact ⟨rfl,HE.out⟩
set_option maxRecDepth 100000 in
set_option maxHeartbeats 8000000 in
theorem lwWs_any (z:Wd) (cd:Int) (hz:cd≠0∨wB z=true) (hs:z.Small) (ta:Option Addr) (tc:Nat) (ha:Option Addr) (hc:Nat) (ta':Option Addr) (tc':Nat) (ha':Option Addr) (hc':Nat) (w:World) (hT:Tgs ta z.ts w) (hH:Hrs ha z.hs w) (hT':Tgs ta' z.ts w) (hH':Hrs ha' z.hs w) :
 Calls Tryd.prog 7 #[.agg (ocells z ta tc ha hc cd),.agg (ocells z ta' tc' ha' hc' cd)] w fun e w'=>e=.returned (.bool true)∧Below w.heap.size w w':=by
 have H1:=H_ (fun W (hW:Below w.heap.size w W)=>lwWd_in z.a z.m z.mo z.ev z.su z.mx z.ts z.hs ta tc ha hc ta' tc' ha' hc' W hs.2.2.1 hs.2.2.2.2 (hT.below hW) (hH.below hW) (hT'.below hW) (hH'.below hW))
 have H2:=H_ (fun W (hW:Below w.heap.size w W)=>spec_window_right z ta tc ha hc W hs.1 hs.2.1 hs.2.2.1 hs.2.2.2.1 (hT.below hW) (hH.below hW))
 have HZ:=H_ hz
 clear hz hs hT hH hT' hH'
 obtain ⟨a,m,mo,ev,su,mx,ts,hh⟩:=z
 unfold ocells wcells at *
 dsimp only at *
 generalize ts.length=tl at *
 generalize hh.length=hl at *
 generalize wB ⟨a,m,mo,ev,su,mx,ts,hh⟩=R at *
 obtain ⟨W0,hW0⟩:∃z,z=(w.alloc (.cells #[.string a,.string m,.int .i64 mo,.int .i64 ev,.int .i64 su,.int .i64 mx,.slice ta tl tc,.slice ha hl hc,.int .i64 cd] 30)).alloc (.cells #[.string a,.string m,.int .i64 mo,.int .i64 ev,.int .i64 su,.int .i64 mx,.slice ta' tl tc',.slice ha' hl hc',.int .i64 cd] 30):=⟨_,rfl⟩
 have hB:Below w.heap.size w W0:=by rw [hW0];exact ((Below.refl _ _).alloc (Nat.le_refl _) _).alloc (by simp) _
 have HB:=H_ hB
 have HX:Hid (Blk w.heap.size [.string a,.string m,.int .i64 mo,.int .i64 ev,.int .i64 su,.int .i64 mx,.slice ta tl tc,.slice ha hl hc,.int .i64 cd] W0):=H_ (by rw [hW0];exact (Blk.new w _ _).below ((Below.refl _ _).alloc (Nat.le_refl _) _))
 have HW:=H_ hW0
 clear hW0 hB
 go_enter Tryd.func7,Tryd.ntmps7
 go_wp2_with fail
 rw [←HW.out]
 refine (H1.out _ HB.out).mono ?_
 rintro e w1 ⟨rfl,hb⟩
 replace HB:=H_ (HB.out.trans (hb.mono HB.out.size))
 replace HX:=H_ (HX.out.below hb)
 clear hb HW H1
 have x0:=HX.out.2 0 (by simp)
 have x1:=HX.out.2 1 (by simp)
 have x2:=HX.out.2 2 (by simp)
 have x3:=HX.out.2 3 (by simp)
 have x4:=HX.out.2 4 (by simp)
 have x5:=HX.out.2 5 (by simp)
 have x6:=HX.out.2 6 (by simp)
 have x7:=HX.out.2 7 (by simp)
 have x8:=HX.out.2 8 (by simp)
 have xl:=HX.out.1
 simp only [List.getElem?_cons_zero,List.getElem?_cons_succ] at x0 x1 x2 x3 x4 x5 x6 x7 x8
 by_cases h0:cd=0
 ·subst h0
  have hR:R=true:=by
   rcases HZ.out with h|h
   ·exact absurd rfl h
   ·exact h
  subst hR
  go_wp2_with fail
  refine (H2.out _ HB.out).mono ?_
  rintro e w2 ⟨rfl,hb⟩
  replace HB:=H_ (HB.out.trans (hb.mono HB.out.size))
  clear hb
  go_wp2_with fail
  go_ret
  exact ⟨rfl,HB.out⟩
 ·have hn:(cd==0)=false:=by simpa using h0
  go_wp2_with fail
  go_ret
  exact ⟨rfl,HB.out⟩
end WinR
end Go.Proofs.YteejpnkmnmoebaaDoor
