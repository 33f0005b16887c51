/-
  A right catalog copied by the model: spec.l05Copy.
  The conditions stand in what each theorem says.
-/
import Derived.Test.YtnceeaccbcfopaaGreatDoorT21
set_option maxRecDepth 100000
set_option maxHeartbeats 16000000
namespace Go.Proofs.YtnceeaccbcfopaaGreatDoor
open Go.ChangeShapes Go.WideShapes Go.ChangeAt Go.RowKit
set_option linter.unusedVariables false
set_option linter.unusedSimpArgs false
namespace CatR
open OwG
open RowG (cellsAll)
open EvtR (Pt)
open DocR (BlkW)
theorem crs_cells {b off:Nat} {cs:List Cr} {w:World} (h:Crs (some ⟨b,off,none⟩) cs.length cs w):∀(j:Nat) u,(cellsAll Cr.cells cs)[j]? = some u→w.cell? ⟨b,off+j,none⟩=some u:=by
 intro j u hj
 have hl:=RowG.cellsAll_len Cr.len cs
 have hjl:j<(cellsAll Cr.cells cs).length:=(List.getElem?_eq_some_iff.1 hj).1
 rw [hl] at hjl
 have e:=RowG.cellsAll_get (z:=Cr.zero) Cr.len cs (j / 2) (j % 2) (by omega) (by omega)
 rw [show j / 2*2+j % 2=j by omega,hj] at e
 rcases h.2 with h0|⟨b',off',h1,_,hc⟩
 ·omega
 ·cases h1
  obtain ⟨p0,p1⟩:=hc (j / 2) (by omega)
  rcases (show j % 2=0∨j % 2=1 by omega) with hm|hm
  ·rw [hm] at e
   rw [show off+j=off+j / 2*2 by omega,p0]
   rw [e]
   rfl
  ·rw [hm] at e
   rw [show off+j=off+j / 2*2+1 by omega,p1]
   rw [e]
   rfl
theorem crs_one (cs:List Cr):∀u∈cellsAll Cr.cells cs,u.oneCell'=true:=by
 intro u hu
 obtain ⟨x,_,hx⟩:=List.mem_flatMap.1 hu
 exact cr_one x.a x.m u hx
theorem crs_src {la:Option Addr} {cs:List Cr} {w:World} (h:Crs la cs.length cs w):∀W,Below w.heap.size w W→(cs.length=0∨∃ad,la=some ad∧∀j u,(cellsAll Cr.cells cs)[j]? = some u→W.cell? (ad.add j)=some u):=by
 intro W hW
 rcases (h.below hW).2 with h0|⟨b,off,rfl,hb,hc⟩
 ·exact .inl h0
 ·refine .inr ⟨⟨b,off,none⟩,rfl,fun j u hj=>?_⟩
  rw [Addr.add_lit]
  exact crs_cells (⟨rfl,.inr ⟨b,off,rfl,hb,hc⟩⟩:Crs (some ⟨b,off,none⟩) cs.length cs W) j u hj
theorem scopy_g (ma ka:Option Addr) (mc cc:Nat) (c:Ca) (w:World) (hc:caB c=true) (hM:Mes ma c.ms.length c.ms w) (hC:Crs ka c.cs.length c.cs w) :
 Calls Tryz.prog 60 #[.agg #[.slice ma c.ms.length mc,.slice ka c.cs.length cc]] w fun e w'=>CpO w c e w':=by
 obtain ⟨i0,hi,hz0,hz1,hz2⟩:=info_parts infoMe
 obtain ⟨j0,gi,gz0,gz1,gz2⟩:=info_parts infoCr
 obtain ⟨⟨m6,hmr⟩,⟨c6,hcr⟩⟩:=caB_iffC.1 hc
 obtain ⟨ms,cs⟩:=c
 dsimp only at *
 have HM:=H_ hM
 have HMR:=H_ hmr
 have HCC:=H_ (crs_src hC)
 have HL:=H_ (RowG.cellsAll_len Cr.len cs)
 have H1:=H_ (crs_one cs)
 obtain ⟨ml,hml⟩:∃n,n=ms.length:=⟨_,rfl⟩
 obtain ⟨cl,hcl⟩:∃n,n=cs.length:=⟨_,rfl⟩
 obtain ⟨C,hCe⟩:∃C,C=cellsAll Cr.cells cs:=⟨_,rfl⟩
 rw [←hml] at m6 ⊢
 rw [←hcl] at c6 HL HCC ⊢
 rw [←hCe] at HCC HL H1
 have HML:=H_ hml
 have HCL:=H_ hcl
 have HCE:=H_ hCe
 clear hM hC hmr hcr hml hcl hCe
 obtain ⟨W1,hW1⟩:∃W1,W1=((w.alloc (.cells #[.slice ma ml mc,.slice ka cl cc] 36)).alloc (.cells #[.slice none 0 0,.slice none 0 0] 36)).alloc (.cells #[] 151):=⟨_,rfl⟩
 have HB0:Hid (Below w.heap.size w W1):=H_ (by rw [hW1];exact ((al_ _ _).alloc (by simp) _).alloc (by simp;omega) _)
 have HA0:Hid (BlkW w.heap.size [.slice ma ml mc,.slice ka cl cc] W1):=H_ (by rw [hW1];exact blkW_alloc (blkW_alloc (BlkW.new w [.slice ma ml mc,.slice ka cl cc] 36) _) _)
 have HR0:Hid (BlkW (w.heap.size+1) [.slice none 0 0,.slice none 0 0] W1):=H_ (by
  rw [hW1]
  have:=blkW_alloc (BlkW.new (w.alloc (.cells #[.slice ma ml mc,.slice ka cl cc] 36)) [.slice none 0 0,.slice none 0 0] 36) (.cells #[] 151)
  simpa using this)
 have HE0:Hid (W1.ownsRow (w.heap.size+2) 151 2 (.slice (some ⟨w.heap.size+1+1,0,none⟩) 0 0) 0 []):=H_ (by
  have:=World.ownsRow_made ((w.alloc (.cells #[.slice ma ml mc,.slice ka cl cc] 36)).alloc (.cells #[.slice none 0 0,.slice none 0 0] 36)) (e:=151) (size:=2) (base:=w.heap.size+2) #[] 0 (by simp) (by unfold maxLen;omega) (by simp)
  rw [hW1]
  simpa using this)
 have HN:=H_ (HCC.out _ HB0.out)
 have hs1:w.heap.size+2≤W1.heap.size:=by rw [hW1];simp
 have hrow:∀k,some (w.heap.size+1+1)=some k→k=w.heap.size+2:=fun k e=>by simp at e;omega
 have HRW:=H_ hrow
 have HW:=H_ hW1
 clear hW1 hrow
 have gsz6:0<6:=by omega
 go_enter Tryz.func60,Tryz.ntmps60
 go_wp2_with (at_builtin;rw [←HW.out];refine RowG.wpList_append_whole _ rfl _ _ 34 rfl (w.heap.size+2) 151 j0 (.agg #[.string ⟨#[]⟩,.int .i64 0]) 2 24 Tryz.underlying34 gi gz0 gz1 gz2 rfl (by decide) (w.heap.size+1+1) rfl HE0.out ka cl cc C rfl HL.out HN.out H1.out (by unfold maxLen;omega) (by omega) hs1 ?_)
 intro v1 w2 hown hgrow hne
 have HO2:Hid (w2.ownsRow (w.heap.size+2) 151 2 v1 cl C):=H_ (by first|exact hown|simpa using hown)
 obtain ⟨v1a,v1c,rfl⟩:∃a c,v1=.slice a cl c:=by
  rcases HO2.out.2 with ⟨h0,h1⟩|⟨g,cap,cur,hv,_⟩
  ·exact ⟨none,0,by rw [h0,h1]⟩
  ·exact ⟨_,_,hv⟩
 have HB2:Hid (Below w.heap.size w w2):=H_ (HB0.out.grown hgrow HB0.out.size (fun k e=>by have:=HRW.out k e;omega))
 have HA2:=H_ (blkW_grown HA0.out hgrow (fun e=>by have:=HRW.out _ e.symm;omega))
 have HR2:=H_ (blkW_grown HR0.out hgrow (fun e=>by have:=HRW.out _ e.symm;omega))
 clear hown hgrow hne HW HB0 HA0 HR0 HE0 HN HRW HCC H1 HL hs1
 obtain ⟨bR,hbR⟩:∃z,z=w.heap.size+1:=⟨_,rfl⟩
 rw [←hbR] at HR2
 have hlo:w.heap.size<bR:=by omega
 have hlo1:bR<w.heap.size+2:=by omega
 have hlo2:bR<w2.heap.size:=HR2.out.1.1
 have HOB:Hid (∀b,(Value.slice v1a cl v1c).ownBlock=some b→b<w2.heap.size):=H_ (fun b e=>(HO2.out.lt b e).2)
 have HBR:=H_ hbR
 clear hbR
 go_wp2_with fail
 rw [←HBR.out]
 clear HBR
 obtain ⟨W3,hW3⟩:∃z,z=w2.alloc (.cells #[.slice none 0 0,.slice v1a cl v1c] 36):=⟨_,rfl⟩
 have hal:Below w2.heap.size w2 W3:=by rw [hW3];exact (Below.refl _ _).alloc (Nat.le_refl _) _
 have HV3:Hid (BlkW w2.heap.size [.slice none 0 0,.slice v1a cl v1c] W3):=H_ (by rw [hW3];exact BlkW.new w2 [.slice none 0 0,.slice v1a cl v1c] 36)
 have HB3:=HT_ HB2 hal
 have HA3:=H_ (HA2.out.below hal)
 have HR3:=H_ (HR2.out.below hal)
 have HO3:=H_ (RowG.own_below HO2.out hal)
 obtain ⟨bV,hbV⟩:∃z,z=w2.heap.size:=⟨_,rfl⟩
 rw [←hbV] at HV3 HOB hlo2 ⊢
 rw [←hW3]
 clear hbV hW3 hal HB2 HA2 HR2 HO2
 go_loopw [4] (fun z wr=>∃(k:Nat) (va:Option Addr) (vc:Nat),k≤ml∧z=.int .i64 k∧Hid (MsO (bV+1) (.slice va k vc) (ms.take k) wr)∧Hid (wr.ownsRow (w.heap.size+2) 151 2 (.slice v1a cl v1c) cl C)∧Hid (BlkW bV [.slice va k vc,.slice v1a cl v1c] wr)∧Hid (BlkW w.heap.size [.slice ma ml mc,.slice ka cl cc] wr)∧Hid (BlkW bR [.slice none 0 0,.slice none 0 0] wr)∧Hid (Below w.heap.size w wr)) (fun z _=>ml-(intOf z).toNat)
 case atStart=>exact ⟨0,none,0,by omega,rfl,H_ (mso_nil _ _),HO3,HV3,HA3,HR3,HB3⟩
 case round =>
  clear HV3 HB3 HA3 HR3 HO3
  obtain ⟨k,va,vc,hk,rfl,HM0,HO,HV,HA,HR,HB⟩:=hrel
  have a0:=HA.out.1.2 0 (by simp)
  have al:=HA.out.1.1
  simp only [List.getElem?_cons_zero,List.getElem?_cons_succ] at a0
  by_cases hlt:k<ml
  ·have hlt2:(k:Int)<(ml:Int):=by omega
   have hkl:k<ms.length:=by have:=HML.out;omega
   obtain ⟨b,off,rfl,hbl0,ta,tc,c0,c1,c2,c3,c4,c5,hT⟩:=mes_at HM.out k (by have:=HML.out;omega)
   have hright:=(HMR.out k hkl).1
   obtain ⟨r1,r5,r6⟩:=me_facts hright
   have HTK:=H_ (RowG.take_more (z:=Me.zero) ms k hkl)
   have HTL:Hid ((ms.take k).length=k):=H_ (by rw [List.length_take];omega)
   generalize ms.getD k Me.zero=X at *
   obtain ⟨b',off',hta⟩:∃b' off',ta=some ⟨b',off',none⟩:=by
    rcases hT.2 with h0|⟨b',off',e,_⟩
    ·omega
    ·exact ⟨b',off',e⟩
   subst hta
   have HSS:Hid (∀W,BlkW w.heap.size [.slice (some ⟨b,off,none⟩) ml mc,.slice ka cl cc] W→Below w.heap.size w W→(fun W=>w.heap.size<W.heap.size∧W.cell? ⟨w.heap.size,0,none⟩=some (.slice (some ⟨b,off,none⟩) ml mc)∧b<W.heap.size∧W.cell? ⟨b,off+k*6,none⟩=some (.string X.n)∧W.cell? ⟨b,off+k*6+1,none⟩=some (.int .i64 X.g)∧W.cell? ⟨b,off+k*6+2,none⟩=some (.bool X.wh)∧W.cell? ⟨b,off+k*6+3,none⟩=some (.int .i64 X.f)∧W.cell? ⟨b,off+k*6+4,none⟩=some (.int .i64 X.l)∧W.cell? ⟨b,off+k*6+5,none⟩=some (.slice (some ⟨b',off',none⟩) X.ts.length tc)) W):=H_ (fun W hA hB=>⟨hA.1.1,hA.1.2 0 (by simp),by have:=hB.size;omega,(hB.cell (p:=⟨b,off+k*6,none⟩) hbl0).trans c0,(hB.cell (p:=⟨b,off+k*6+1,none⟩) hbl0).trans c1,(hB.cell (p:=⟨b,off+k*6+2,none⟩) hbl0).trans c2,(hB.cell (p:=⟨b,off+k*6+3,none⟩) hbl0).trans c3,(hB.cell (p:=⟨b,off+k*6+4,none⟩) hbl0).trans c4,(hB.cell (p:=⟨b,off+k*6+5,none⟩) hbl0).trans c5⟩)
   have HCP:=H_ (fun W (hb:Below w.heap.size w W)=>spec_meO b' off' tc X W (by omega) (hT.below hb))
   have HME:=H_ (me_one X)
   have sz1:k+1≤maxLen:=by unfold maxLen;omega
   have sz2:(k+1)*72≤140737488355328:=by omega
   clear hT hright c0 c1 c2 c3 c4 c5
   go_wp2_with fail
   have hZ0:Below wr.heap.size wr wr.drew:=(Below.refl _ _).drew
   have hB0:=HB.out.trans (hZ0.mono HB.out.size)
   have hA0:=HA.out.below hZ0
   have hR0:=HR.out.below hZ0
   have hV0:=HV.out.below hZ0
   have hM0:=HM0.out.lim.below hZ0
   have hO0:=RowG.own_below HO.out hZ0
   obtain ⟨L0,hL0⟩:∃z,z=wr.heap.size:=⟨_,rfl⟩
   have hbl:bV+1≤L0:=by have:=HV.out.1.1;omega
   have hL1:L0≤wr.drew.heap.size:=by rw [hL0];exact hZ0.size
   rw [←hL0] at hM0
   clear hL0 hZ0
   have hS0:=HSS.out _ hA0 hB0
   refine wp_region_held_drew (S:=(fun W=>w.heap.size<W.heap.size∧W.cell? ⟨w.heap.size,0,none⟩=some (.slice (some ⟨b,off,none⟩) ml mc)∧b<W.heap.size∧W.cell? ⟨b,off+k*6,none⟩=some (.string X.n)∧W.cell? ⟨b,off+k*6+1,none⟩=some (.int .i64 X.g)∧W.cell? ⟨b,off+k*6+2,none⟩=some (.bool X.wh)∧W.cell? ⟨b,off+k*6+3,none⟩=some (.int .i64 X.f)∧W.cell? ⟨b,off+k*6+4,none⟩=some (.int .i64 X.l)∧W.cell? ⟨b,off+k*6+5,none⟩=some (.slice (some ⟨b',off',none⟩) X.ts.length tc))) (by kernel_rfl) hS0 (fun hHeld=>?_)
   generalize wr.drew=kd at *
   refine tk 0 ?_
   refine tk 2 ?_
   refine tk 3 ?_
   refine tk 4 ?_
   refine tk 5 ?_
   refine tk 6 ?_
   refine rd2 1 7 (fun K hK=>?_) (fun K hK=>?_)
   ·have c6:=hV0.1.2 0 (by simp)
    have l6:=hV0.1.1
    simp only [List.getElem?_cons_zero,List.getElem?_cons_succ] at c6
    go_simp
    try go_wp2_with fail
    refine hK.out _ _ hS0 (fun _=>?_)
    clear hK K
    try simp only [Act.put,SL]
    clear c6 l6
    refine rd 7 (fun K hK=>?_)
    go_simp
    go_at_call 113
    refine (HCP.out _ hB0).mono ?_
    rintro e q1 ⟨ta,tq,rfl,hNz,hb1⟩
    try go_wp2_with fail
    have hB1:=hB0.trans (hb1.mono hB0.size)
    have hM1:=hM0.below hb1
    have hN1:=own_low hNz hL1
    clear hNz
    have hO1:=RowG.own_below hO0 hb1
    have hA1:=hA0.below hb1
    have hR1:=hR0.below hb1
    have hV1:=hV0.below hb1
    have hS1:=HSS.out _ hA1 hB1
    refine hK.out _ _ hS1 (fun _=>?_)
    clear hK K
    try simp only [Act.put,SL]
    refine rd 8 (fun K hK=>?_)
    go_simp
    try go_wp2_with fail
    have hB2:=hB1.alloc hB1.size (Obj.cells #[.string X.n,.int .i64 X.g,.bool X.wh,.int .i64 X.f,.int .i64 X.l,.slice ta X.ts.length tq] 150)
    have hA2:=hA1.below (al_ q1 (Obj.cells #[.string X.n,.int .i64 X.g,.bool X.wh,.int .i64 X.f,.int .i64 X.l,.slice ta X.ts.length tq] 150))
    have hR2:=hR1.below (al_ q1 (Obj.cells #[.string X.n,.int .i64 X.g,.bool X.wh,.int .i64 X.f,.int .i64 X.l,.slice ta X.ts.length tq] 150))
    have hV2:=hV1.below (al_ q1 (Obj.cells #[.string X.n,.int .i64 X.g,.bool X.wh,.int .i64 X.f,.int .i64 X.l,.slice ta X.ts.length tq] 150))
    have hM2:=hM1.below (al_ q1 (Obj.cells #[.string X.n,.int .i64 X.g,.bool X.wh,.int .i64 X.f,.int .i64 X.l,.slice ta X.ts.length tq] 150))
    have hN2:=RowG.own_below hN1 (al_ q1 (Obj.cells #[.string X.n,.int .i64 X.g,.bool X.wh,.int .i64 X.f,.int .i64 X.l,.slice ta X.ts.length tq] 150))
    have hO2:=RowG.own_below hO1 (al_ q1 (Obj.cells #[.string X.n,.int .i64 X.g,.bool X.wh,.int .i64 X.f,.int .i64 X.l,.slice ta X.ts.length tq] 150))
    have hS2:=HSS.out _ hA2 hB2
    have hnw:∀j u,([.string X.n,.int .i64 X.g,.bool X.wh,.int .i64 X.f,.int .i64 X.l,.slice ta X.ts.length tq]:List Value)[j]? = some u→(q1.alloc (Obj.cells #[.string X.n,.int .i64 X.g,.bool X.wh,.int .i64 X.f,.int .i64 X.l,.slice ta X.ts.length tq] 150)).cell? ((⟨q1.heap.size,0,none⟩:Addr).add j)=some u:=new_cells q1 [.string X.n,.int .i64 X.g,.bool X.wh,.int .i64 X.f,.int .i64 X.l,.slice ta X.ts.length tq] 150
    refine hK.out _ _ hS2 (fun _=>?_)
    clear hK K
    try simp only [Act.put,SL]
    obtain ⟨bN,hbN⟩:∃z,z=q1.heap.size:=⟨_,rfl⟩
    rw [←hbN] at hnw ⊢
    obtain ⟨k2,hk2⟩:∃z,z=q1.alloc (Obj.cells #[.string X.n,.int .i64 X.g,.bool X.wh,.int .i64 X.f,.int .i64 X.l,.slice ta X.ts.length tq] 150):=⟨_,rfl⟩
    rw [←hk2] at hnw hB2 hA2 hR2 hV2 hM2 hN2 hO2 hS2 ⊢
    clear hbN hk2
    refine rd 9 (fun K hK=>?_)
    obtain ⟨xs,x1,x2,x3,x4,x5⟩:=hM2
    have x2':=x2
    rw [HTL.out] at x2'
    refine step_append_c rfl _ _ 33 rfl (bV+1) 150 i0 (.agg #[.string ⟨#[]⟩,.int .i64 0,.bool false,.int .i64 0,.int .i64 0,.slice none 0 0]) 6 72 Tryz.underlying33 hi hz0 hz1 hz2 rfl gsz6 _ _ _ rfl x2' ⟨bN,0,none⟩ 1 1 [.string X.n,.int .i64 X.g,.bool X.wh,.int .i64 X.f,.int .i64 X.l,.slice ta X.ts.length tq] rfl rfl hnw (HME.out ta tq) sz1 sz2 (hV2.1.1) ?_
    intro v9 w9 hown hgrow hne
    have hB3:=hB2.grown hgrow hB2.size (fun _ e=>by have:=(x2'.lt _ e).1;omega)
    have hA3:=blkW_grown hA2 hgrow (fun e=>by have:=(x2'.lt _ e.symm).1;omega)
    have hR3:=blkW_grown hR2 hgrow (fun e=>by have:=(x2'.lt _ e.symm).1;omega)
    have hV3:=blkW_grown hV2 hgrow (fun e=>by have:=(x2'.lt _ e.symm).1;omega)
    have hS3:=HSS.out _ hA3 hB3
    have hO3:=own_keepO hO2 hgrow (own_apart hO2 x2' (by decide))
    have hM3:MsO (bV+1) v9 (ms.take (k+1)) w9:=by
     rw [HTK.out]
     exact mso_snoc x1 x3 x4 x5 hbl hN2 x2 hgrow (by rw [HTL.out];exact hown)
    obtain ⟨sb,sc,rfl⟩:=own_form hown
    clear hown hgrow hne hnw x1 x2 x3 x4 x5 x2'
    refine hK.out _ _ hS3 (fun _=>?_)
    clear hK K
    try simp only [Act.put,SL]
    refine tk 10 ?_
    refine rd 11 (fun K hK=>?_)
    have c6:=hV3.1.2 0 (by simp)
    have l6:=hV3.1.1
    have f6:=hV3.2 0 (by simp)
    simp only [List.getElem?_cons_zero,List.getElem?_cons_succ] at c6
    go_simp
    try go_wp2_with fail
    have hg:=RowG.grown_set w9 bV 0 (.slice (some ⟨sb,0,none⟩) (k+1) sc)
    have hB9:=hB3.setCell (show w.heap.size≤(⟨bV,0,none⟩:Addr).block by simp;omega) (.slice (some ⟨sb,0,none⟩) (k+1) sc)
    have hA9:=blkW_grown hA3 hg (by simp;omega)
    have hR9:=blkW_grown hR3 hg (by simp;omega)
    have hS9:=HSS.out _ hA9 hB9
    have hV9:=hV3.set 0 (.slice (some ⟨sb,0,none⟩) (k+1) sc) (by simp)
    simp only [List.set_cons_zero,List.set_cons_succ] at hV9
    have hM9:=hM3.far hg (by omega)
    have hO9:=own_keepO hO3 hg (fun b e=>by have:=HOB.out b e;simp;omega)
    refine hK.out _ _ hS9 (fun _=>?_)
    clear hK K
    try simp only [Act.put,SL]
    generalize (w9.setCell ⟨bV,0,none⟩ (.slice (some ⟨sb,0,none⟩) (k+1) sc))=kk at *
    refine wpAnyH_done (by kernel_rfl) ?_ _
    have HB9:=H_ hB9
    have HA9:=H_ hA9
    have HR9:=H_ hR9
    have HV9:=H_ hV9
    have HM9:=H_ hM9
    have HO9:=H_ hO9
    clear hB9 hA9 hR9 hV9 hM9 hO9 hS9 hg c6 l6 f6
    go_wp2_with fail
    go_roundw
    case rel=>exact ⟨k+1,some ⟨sb,0,none⟩,sc,by omega,by go_num,HM9,HO9,HV9,HA9,HR9,HB9⟩
    case measure=>simp [intOf];omega
   ·go_simp
    go_at_call 113
    refine (HCP.out _ hB0).mono ?_
    rintro e q1 ⟨ta,tq,rfl,hNz,hb1⟩
    try go_wp2_with fail
    have hB1:=hB0.trans (hb1.mono hB0.size)
    have hM1:=hM0.below hb1
    have hN1:=own_low hNz hL1
    clear hNz
    have hO1:=RowG.own_below hO0 hb1
    have hA1:=hA0.below hb1
    have hR1:=hR0.below hb1
    have hV1:=hV0.below hb1
    have hS1:=HSS.out _ hA1 hB1
    refine hK.out _ _ hS1 (fun _=>?_)
    clear hK K
    try simp only [Act.put,SL]
    refine rd2 1 8 (fun K hK=>?_) (fun K hK=>?_)
    ·have c6:=hV1.1.2 0 (by simp)
     have l6:=hV1.1.1
     simp only [List.getElem?_cons_zero,List.getElem?_cons_succ] at c6
     go_simp
     try go_wp2_with fail
     refine hK.out _ _ hS1 (fun _=>?_)
     clear hK K
     try simp only [Act.put,SL]
     clear c6 l6
     refine rd 8 (fun K hK=>?_)
     go_simp
     try go_wp2_with fail
     have hB2:=hB1.alloc hB1.size (Obj.cells #[.string X.n,.int .i64 X.g,.bool X.wh,.int .i64 X.f,.int .i64 X.l,.slice ta X.ts.length tq] 150)
     have hA2:=hA1.below (al_ q1 (Obj.cells #[.string X.n,.int .i64 X.g,.bool X.wh,.int .i64 X.f,.int .i64 X.l,.slice ta X.ts.length tq] 150))
     have hR2:=hR1.below (al_ q1 (Obj.cells #[.string X.n,.int .i64 X.g,.bool X.wh,.int .i64 X.f,.int .i64 X.l,.slice ta X.ts.length tq] 150))
     have hV2:=hV1.below (al_ q1 (Obj.cells #[.string X.n,.int .i64 X.g,.bool X.wh,.int .i64 X.f,.int .i64 X.l,.slice ta X.ts.length tq] 150))
     have hM2:=hM1.below (al_ q1 (Obj.cells #[.string X.n,.int .i64 X.g,.bool X.wh,.int .i64 X.f,.int .i64 X.l,.slice ta X.ts.length tq] 150))
     have hN2:=RowG.own_below hN1 (al_ q1 (Obj.cells #[.string X.n,.int .i64 X.g,.bool X.wh,.int .i64 X.f,.int .i64 X.l,.slice ta X.ts.length tq] 150))
     have hO2:=RowG.own_below hO1 (al_ q1 (Obj.cells #[.string X.n,.int .i64 X.g,.bool X.wh,.int .i64 X.f,.int .i64 X.l,.slice ta X.ts.length tq] 150))
     have hS2:=HSS.out _ hA2 hB2
     have hnw:∀j u,([.string X.n,.int .i64 X.g,.bool X.wh,.int .i64 X.f,.int .i64 X.l,.slice ta X.ts.length tq]:List Value)[j]? = some u→(q1.alloc (Obj.cells #[.string X.n,.int .i64 X.g,.bool X.wh,.int .i64 X.f,.int .i64 X.l,.slice ta X.ts.length tq] 150)).cell? ((⟨q1.heap.size,0,none⟩:Addr).add j)=some u:=new_cells q1 [.string X.n,.int .i64 X.g,.bool X.wh,.int .i64 X.f,.int .i64 X.l,.slice ta X.ts.length tq] 150
     refine hK.out _ _ hS2 (fun _=>?_)
     clear hK K
     try simp only [Act.put,SL]
     obtain ⟨bN,hbN⟩:∃z,z=q1.heap.size:=⟨_,rfl⟩
     rw [←hbN] at hnw ⊢
     obtain ⟨k2,hk2⟩:∃z,z=q1.alloc (Obj.cells #[.string X.n,.int .i64 X.g,.bool X.wh,.int .i64 X.f,.int .i64 X.l,.slice ta X.ts.length tq] 150):=⟨_,rfl⟩
     rw [←hk2] at hnw hB2 hA2 hR2 hV2 hM2 hN2 hO2 hS2 ⊢
     clear hbN hk2
     refine rd 9 (fun K hK=>?_)
     obtain ⟨xs,x1,x2,x3,x4,x5⟩:=hM2
     have x2':=x2
     rw [HTL.out] at x2'
     refine step_append_c rfl _ _ 33 rfl (bV+1) 150 i0 (.agg #[.string ⟨#[]⟩,.int .i64 0,.bool false,.int .i64 0,.int .i64 0,.slice none 0 0]) 6 72 Tryz.underlying33 hi hz0 hz1 hz2 rfl gsz6 _ _ _ rfl x2' ⟨bN,0,none⟩ 1 1 [.string X.n,.int .i64 X.g,.bool X.wh,.int .i64 X.f,.int .i64 X.l,.slice ta X.ts.length tq] rfl rfl hnw (HME.out ta tq) sz1 sz2 (hV2.1.1) ?_
     intro v9 w9 hown hgrow hne
     have hB3:=hB2.grown hgrow hB2.size (fun _ e=>by have:=(x2'.lt _ e).1;omega)
     have hA3:=blkW_grown hA2 hgrow (fun e=>by have:=(x2'.lt _ e.symm).1;omega)
     have hR3:=blkW_grown hR2 hgrow (fun e=>by have:=(x2'.lt _ e.symm).1;omega)
     have hV3:=blkW_grown hV2 hgrow (fun e=>by have:=(x2'.lt _ e.symm).1;omega)
     have hS3:=HSS.out _ hA3 hB3
     have hO3:=own_keepO hO2 hgrow (own_apart hO2 x2' (by decide))
     have hM3:MsO (bV+1) v9 (ms.take (k+1)) w9:=by
      rw [HTK.out]
      exact mso_snoc x1 x3 x4 x5 hbl hN2 x2 hgrow (by rw [HTL.out];exact hown)
     obtain ⟨sb,sc,rfl⟩:=own_form hown
     clear hown hgrow hne hnw x1 x2 x3 x4 x5 x2'
     refine hK.out _ _ hS3 (fun _=>?_)
     clear hK K
     try simp only [Act.put,SL]
     refine tk 10 ?_
     refine rd 11 (fun K hK=>?_)
     have c6:=hV3.1.2 0 (by simp)
     have l6:=hV3.1.1
     have f6:=hV3.2 0 (by simp)
     simp only [List.getElem?_cons_zero,List.getElem?_cons_succ] at c6
     go_simp
     try go_wp2_with fail
     have hg:=RowG.grown_set w9 bV 0 (.slice (some ⟨sb,0,none⟩) (k+1) sc)
     have hB9:=hB3.setCell (show w.heap.size≤(⟨bV,0,none⟩:Addr).block by simp;omega) (.slice (some ⟨sb,0,none⟩) (k+1) sc)
     have hA9:=blkW_grown hA3 hg (by simp;omega)
     have hR9:=blkW_grown hR3 hg (by simp;omega)
     have hS9:=HSS.out _ hA9 hB9
     have hV9:=hV3.set 0 (.slice (some ⟨sb,0,none⟩) (k+1) sc) (by simp)
     simp only [List.set_cons_zero,List.set_cons_succ] at hV9
     have hM9:=hM3.far hg (by omega)
     have hO9:=own_keepO hO3 hg (fun b e=>by have:=HOB.out b e;simp;omega)
     refine hK.out _ _ hS9 (fun _=>?_)
     clear hK K
     try simp only [Act.put,SL]
     generalize (w9.setCell ⟨bV,0,none⟩ (.slice (some ⟨sb,0,none⟩) (k+1) sc))=kk at *
     refine wpAnyH_done (by kernel_rfl) ?_ _
     have HB9:=H_ hB9
     have HA9:=H_ hA9
     have HR9:=H_ hR9
     have HV9:=H_ hV9
     have HM9:=H_ hM9
     have HO9:=H_ hO9
     clear hB9 hA9 hR9 hV9 hM9 hO9 hS9 hg c6 l6 f6
     go_wp2_with fail
     go_roundw
     case rel=>exact ⟨k+1,some ⟨sb,0,none⟩,sc,by omega,by go_num,HM9,HO9,HV9,HA9,HR9,HB9⟩
     case measure=>simp [intOf];omega
    ·go_simp
     try go_wp2_with fail
     have hB2:=hB1.alloc hB1.size (Obj.cells #[.string X.n,.int .i64 X.g,.bool X.wh,.int .i64 X.f,.int .i64 X.l,.slice ta X.ts.length tq] 150)
     have hA2:=hA1.below (al_ q1 (Obj.cells #[.string X.n,.int .i64 X.g,.bool X.wh,.int .i64 X.f,.int .i64 X.l,.slice ta X.ts.length tq] 150))
     have hR2:=hR1.below (al_ q1 (Obj.cells #[.string X.n,.int .i64 X.g,.bool X.wh,.int .i64 X.f,.int .i64 X.l,.slice ta X.ts.length tq] 150))
     have hV2:=hV1.below (al_ q1 (Obj.cells #[.string X.n,.int .i64 X.g,.bool X.wh,.int .i64 X.f,.int .i64 X.l,.slice ta X.ts.length tq] 150))
     have hM2:=hM1.below (al_ q1 (Obj.cells #[.string X.n,.int .i64 X.g,.bool X.wh,.int .i64 X.f,.int .i64 X.l,.slice ta X.ts.length tq] 150))
     have hN2:=RowG.own_below hN1 (al_ q1 (Obj.cells #[.string X.n,.int .i64 X.g,.bool X.wh,.int .i64 X.f,.int .i64 X.l,.slice ta X.ts.length tq] 150))
     have hO2:=RowG.own_below hO1 (al_ q1 (Obj.cells #[.string X.n,.int .i64 X.g,.bool X.wh,.int .i64 X.f,.int .i64 X.l,.slice ta X.ts.length tq] 150))
     have hS2:=HSS.out _ hA2 hB2
     have hnw:∀j u,([.string X.n,.int .i64 X.g,.bool X.wh,.int .i64 X.f,.int .i64 X.l,.slice ta X.ts.length tq]:List Value)[j]? = some u→(q1.alloc (Obj.cells #[.string X.n,.int .i64 X.g,.bool X.wh,.int .i64 X.f,.int .i64 X.l,.slice ta X.ts.length tq] 150)).cell? ((⟨q1.heap.size,0,none⟩:Addr).add j)=some u:=new_cells q1 [.string X.n,.int .i64 X.g,.bool X.wh,.int .i64 X.f,.int .i64 X.l,.slice ta X.ts.length tq] 150
     refine hK.out _ _ hS2 (fun _=>?_)
     clear hK K
     try simp only [Act.put,SL]
     obtain ⟨bN,hbN⟩:∃z,z=q1.heap.size:=⟨_,rfl⟩
     rw [←hbN] at hnw ⊢
     obtain ⟨k2,hk2⟩:∃z,z=q1.alloc (Obj.cells #[.string X.n,.int .i64 X.g,.bool X.wh,.int .i64 X.f,.int .i64 X.l,.slice ta X.ts.length tq] 150):=⟨_,rfl⟩
     rw [←hk2] at hnw hB2 hA2 hR2 hV2 hM2 hN2 hO2 hS2 ⊢
     clear hbN hk2
     refine rd 1 (fun K hK=>?_)
     have c6:=hV2.1.2 0 (by simp)
     have l6:=hV2.1.1
     simp only [List.getElem?_cons_zero,List.getElem?_cons_succ] at c6
     go_simp
     try go_wp2_with fail
     refine hK.out _ _ hS2 (fun _=>?_)
     clear hK K
     try simp only [Act.put,SL]
     clear c6 l6
     refine rd 9 (fun K hK=>?_)
     obtain ⟨xs,x1,x2,x3,x4,x5⟩:=hM2
     have x2':=x2
     rw [HTL.out] at x2'
     refine step_append_c rfl _ _ 33 rfl (bV+1) 150 i0 (.agg #[.string ⟨#[]⟩,.int .i64 0,.bool false,.int .i64 0,.int .i64 0,.slice none 0 0]) 6 72 Tryz.underlying33 hi hz0 hz1 hz2 rfl gsz6 _ _ _ rfl x2' ⟨bN,0,none⟩ 1 1 [.string X.n,.int .i64 X.g,.bool X.wh,.int .i64 X.f,.int .i64 X.l,.slice ta X.ts.length tq] rfl rfl hnw (HME.out ta tq) sz1 sz2 (hV2.1.1) ?_
     intro v9 w9 hown hgrow hne
     have hB3:=hB2.grown hgrow hB2.size (fun _ e=>by have:=(x2'.lt _ e).1;omega)
     have hA3:=blkW_grown hA2 hgrow (fun e=>by have:=(x2'.lt _ e.symm).1;omega)
     have hR3:=blkW_grown hR2 hgrow (fun e=>by have:=(x2'.lt _ e.symm).1;omega)
     have hV3:=blkW_grown hV2 hgrow (fun e=>by have:=(x2'.lt _ e.symm).1;omega)
     have hS3:=HSS.out _ hA3 hB3
     have hO3:=own_keepO hO2 hgrow (own_apart hO2 x2' (by decide))
     have hM3:MsO (bV+1) v9 (ms.take (k+1)) w9:=by
      rw [HTK.out]
      exact mso_snoc x1 x3 x4 x5 hbl hN2 x2 hgrow (by rw [HTL.out];exact hown)
     obtain ⟨sb,sc,rfl⟩:=own_form hown
     clear hown hgrow hne hnw x1 x2 x3 x4 x5 x2'
     refine hK.out _ _ hS3 (fun _=>?_)
     clear hK K
     try simp only [Act.put,SL]
     refine tk 10 ?_
     refine rd 11 (fun K hK=>?_)
     have c6:=hV3.1.2 0 (by simp)
     have l6:=hV3.1.1
     have f6:=hV3.2 0 (by simp)
     simp only [List.getElem?_cons_zero,List.getElem?_cons_succ] at c6
     go_simp
     try go_wp2_with fail
     have hg:=RowG.grown_set w9 bV 0 (.slice (some ⟨sb,0,none⟩) (k+1) sc)
     have hB9:=hB3.setCell (show w.heap.size≤(⟨bV,0,none⟩:Addr).block by simp;omega) (.slice (some ⟨sb,0,none⟩) (k+1) sc)
     have hA9:=blkW_grown hA3 hg (by simp;omega)
     have hR9:=blkW_grown hR3 hg (by simp;omega)
     have hS9:=HSS.out _ hA9 hB9
     have hV9:=hV3.set 0 (.slice (some ⟨sb,0,none⟩) (k+1) sc) (by simp)
     simp only [List.set_cons_zero,List.set_cons_succ] at hV9
     have hM9:=hM3.far hg (by omega)
     have hO9:=own_keepO hO3 hg (fun b e=>by have:=HOB.out b e;simp;omega)
     refine hK.out _ _ hS9 (fun _=>?_)
     clear hK K
     try simp only [Act.put,SL]
     generalize (w9.setCell ⟨bV,0,none⟩ (.slice (some ⟨sb,0,none⟩) (k+1) sc))=kk at *
     refine wpAnyH_done (by kernel_rfl) ?_ _
     have HB9:=H_ hB9
     have HA9:=H_ hA9
     have HR9:=H_ hR9
     have HV9:=H_ hV9
     have HM9:=H_ hM9
     have HO9:=H_ hO9
     clear hB9 hA9 hR9 hV9 hM9 hO9 hS9 hg c6 l6 f6
     go_wp2_with fail
     go_roundw
     case rel=>exact ⟨k+1,some ⟨sb,0,none⟩,sc,by omega,by go_num,HM9,HO9,HV9,HA9,HR9,HB9⟩
     case measure=>simp [intOf];omega
  ·have hlt2:¬(k:Int)<(ml:Int):=by omega
   obtain rfl:k=ml:=by omega
   have HTE:Hid (ms.take k=ms):=H_ (by rw [HML.out];exact List.take_length)
   rw [HTE.out] at HM0
   clear HTE
   obtain ⟨⟨vl,vk⟩,_⟩:=HV.out
   have v0:=q_ vk 0
   have v1:=q_ vk 1
   obtain ⟨⟨rl,rk⟩,rf⟩:=HR.out
   have p0:=q_ rk 0
   have f0:=rf 0 (by simp)
   have p1:=q_ rk 1
   have f1:=rf 1 (by simp)
   have hg:=StR.stL_grown bR [.slice va k vc,.slice v1a cl v1c] 0 wr
   have HB9:=H_ (HB.out.grown hg HB.out.size (fun _ e=>by cases e;omega))
   have HO9:=H_ (own_keepG HO.out hg (by omega))
   have HM9:=H_ (HM0.out.far hg (by omega))
   simp only [StR.stL,Nat.zero_add] at HB9 HO9 HM9
   clear vk rk rf hg HB HR HV HO HM0
   go_wp2_with fail
   refine bodyPost_ret (v:=.agg #[.slice va k vc,.slice v1a cl v1c]) (by simp [results,Tryz.results60,go_sem,p0,p1]) rfl ⟨_,_,_,by rw [←HCL.out],?_,?_,HB9.out⟩
   ·exact HM9.out.low (by omega)
   ·rw [←HCL.out]
    show World.ownsRow _ _ _ _ _ _ (cellsAll Cr.cells cs)
    rw [←HCE.out]
    exact own_low HO9.out (by omega)
end CatR
end Go.Proofs.YtnceeaccbcfopaaGreatDoor
