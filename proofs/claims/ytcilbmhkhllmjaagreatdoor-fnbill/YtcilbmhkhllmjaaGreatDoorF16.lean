/-
  A catalog that is drawn: (*l01Src).l05Catalog. No condition but the source.
-/
import Derived.Deep.RegionHeld3
import Derived.Deep.RegionLawGrows
import Derived.Test.YtcilbmhkhllmjaaGreatDoorF15
namespace Go.Proofs.YtcilbmhkhllmjaaGreatDoor
open Go.ChangeShapes Go.WideShapes Go.ChangeAt Go.RowKit
set_option linter.unusedVariables false
set_option linter.unusedSimpArgs false
namespace DrawR
open CatR (Ti Me Cr Ca Tis Mes Crs TiAt MeAt CrAt IsMe IsCa)
open EvtR (Pt)
open DocR (BlkW)
theorem infoCr:(Tryz.prog.info? 118).map (fun i=>(i.zero,i.size,i.bytes))=some (some (.agg #[.string ⟨#[]⟩,.int .i64 0]),2,24):=by kernel_rfl
set_option maxRecDepth 100000 in
theorem sliceM (mb:Nat):∀(j:Nat) (hj:j<4) (w:World),(Instr.slice 33 (.slice (some ⟨mb,0,none⟩) 4 4) (some (.int .i64 j)) none none).run Tryz.prog w=.ok (.slice (some ⟨mb,j*6,none⟩) (4-j) (4-j)) w
 | 0,_,w=>by kernel_rfl
 | 1,_,w=>by kernel_rfl
 | 2,_,w=>by kernel_rfl
 | 3,_,w=>by kernel_rfl
theorem memoT {goal:Prop} (F:Nat→Nat→Nat→ByteArray→World→Prop) {G:Nat→Nat→Nat→ByteArray→World→Prop} (h1:Hid (∀x0 x1 x2 T W,F x0 x1 x2 T W→G x0 x1 x2 T W)→goal) (h2:∀x0 x1 x2 T W,F x0 x1 x2 T W→G x0 x1 x2 T W):goal:=h1 h2
theorem crs_keptG {ao:Option Addr} {n x:Nat} {cs:List Cr} {W W':World} (h:Crs ao n cs W) (hg:W.grownBy W' (some x)) (hne:∀b o,ao=some ⟨b,o,none⟩→b≠x):Crs ao n cs W':=by
 obtain ⟨h1,h2⟩:=h
 refine ⟨h1,?_⟩
 rcases h2 with h0|⟨b,o,e,hl,hc⟩
 ·exact .inl h0
 ·have eb:=hg.block b hl (by simp only [ne_eq,Option.some.injEq];exact hne b o e)
  exact .inr ⟨b,o,e,by have:=hg.size;omega,fun j hj=>⟨(World.cell?_of_block (a:=⟨b,o+j*2,none⟩) eb).trans (hc j hj).1,(World.cell?_of_block (a:=⟨b,o+j*2+1,none⟩) eb).trans (hc j hj).2⟩⟩
def crC (x:Cr):List Value:=[.string x.a,.int .i64 x.m]
theorem crC_len (x:Cr):(crC x).length=2:=rfl
theorem crs_of {ao:Option Addr} {cs:List Cr} {w:World} (h:RowG.Rws 2 crC Cr.zero ao cs w):Crs ao cs.length cs w:=by
 refine ⟨rfl,?_⟩
 rcases h with h0|⟨b,off,rfl,hlt,hc⟩
 ·exact .inl h0
 ·exact .inr ⟨b,off,rfl,hlt,fun j hj=>⟨hc j hj 0 (by omega),hc j hj 1 (by omega)⟩⟩
structure CS (ao:Option Addr) (len cap g:Nat) (w:World) (B mb:Nat) (W:World):Prop where
 src:Src ao len cap g W
 grew:w.grownBy W (some g)
 bB:BlkW B [.slice (some ⟨mb,0,none⟩) 4 4,.slice (some ⟨mb+1,0,none⟩) 1 1] W
 bR:BlkW w.heap.size [.slice none 0 0,.slice none 0 0] W
 mes:MesF (fun b=>w.heap.size<b∧b≠mb∧b≠B) mb 0 4 plainM W
 ptm:Pt mb 24 W
 crs:Crs (some ⟨mb+1,0,none⟩) 1 plainC.cs W
section
variable {ao:Option Addr} {len cap g:Nat} {w:World} {B mb:Nat} {W:World}
theorem CS.step {W':World} (h:CS ao len cap g w B mb W) (hgl:g<w.heap.size) (hmB:w.heap.size<mb∧mb+1<B) (hS:Src ao len cap g W') (hg:W.grownBy W' (some g)):CS ao len cap g w B mb W':=by
 obtain ⟨h1,h2,h3,h4,h8,h9,h10⟩:=h
 exact ⟨hS,Lib.grownBy_trans h2 hg,OwG.blkW_grown h3 hg (by simp only [ne_eq,Option.some.injEq];omega),OwG.blkW_grown h4 hg (by simp only [ne_eq,Option.some.injEq];omega),h8.kept hg (by omega) (by omega),OwG.pt_row h9 hg (by simp only [ne_eq,Option.some.injEq];omega),crs_kept h10 hg (by omega)⟩
theorem CS.below {W':World} (h:CS ao len cap g w B mb W) (hb:Below W.heap.size W W'):CS ao len cap g w B mb W':=by
 obtain ⟨h1,h2,h3,h4,h8,h9,h10⟩:=h
 exact ⟨h1.kept (row:=none) (OwG.rgrownO hb none) (fun k e=>by cases e),h2.andThen (OwG.rgrownO hb none) (fun k e=>by cases e),h3.below hb,h4.below hb,h8.below hb,h9.below hb,h10.below hb⟩
theorem CS.fin {x y:Value} {c:Ca} {ma:Option Addr} {mc:Nat} {ca:Option Addr} {cc:Nat} (hS:Src ao len cap g W) (hg:w.grownBy W (some g)) (hgl:g<w.heap.size) (hM:Mes ma c.ms.length c.ms (StR.stL W w.heap.size 0 [x,y])) (hC:Crs ca c.cs.length c.cs (StR.stL W w.heap.size 0 [x,y])) (hs:c.Small) (hfar:∀W':World,(StR.stL W w.heap.size 0 [x,y]).heap.size≤W'.heap.size→(∀k,w.heap.size≤k→k<(StR.stL W w.heap.size 0 [x,y]).heap.size→W'.heap[k]? = (StR.stL W w.heap.size 0 [x,y]).heap[k]?)→Mes ma c.ms.length c.ms W'∧Crs ca c.cs.length c.cs W'):CaOut ao len cap g w (.returned (.agg #[.slice ma c.ms.length mc,.slice ca c.cs.length cc])) (StR.stL W w.heap.size 0 [x,y]):=by
 have hr:=StR.stL_grown w.heap.size [x,y] 0 W
 exact ⟨⟨c,ma,mc,ca,cc,rfl,hM,hC,hs,hfar⟩,hS.kept hr (fun k e=>by cases e;exact hgl),hg.andThen hr (fun k e=>by cases e;exact .inl (Nat.le_refl _))⟩
end
set_option maxRecDepth 100000 in
set_option maxHeartbeats 8000000 in
theorem catalog_any (ao:Option Addr) (len cap g:Nat) (w:World) (hS:Src ao len cap g w) :
 Calls Tryz.prog 60 #[.pointer (some ⟨g,0,none⟩)] w fun e w'=>CaOut ao len cap g w e w':=by
 have hgl:=hS.lt
 obtain ⟨i0,hi,hz0,hz1,hz2⟩:=info_parts infoCr
 have HN:=H_ (fun most W hm h=>n_any ao len cap g most W hm h)
 have HM:=H_ (fun W h=>meter_any ao len cap g W h)
 have HP:=H_ (fun w=>plain_any w)
 obtain ⟨W1,hW1⟩:∃W1,W1=w.alloc (.cells #[.slice none 0 0,.slice none 0 0] 36):=⟨_,rfl⟩
 have hs1:W1.heap.size=w.heap.size+1:=by rw [hW1];simp
 have HB1:Hid (Below w.heap.size w W1):=H_ (by rw [hW1];exact (Below.refl _ _).alloc (Nat.le_refl _) _)
 have HR1:Hid (BlkW w.heap.size [.slice none 0 0,.slice none 0 0] W1):=H_ (by rw [hW1];exact DocR.BlkW.new w [.slice none 0 0,.slice none 0 0] 36)
 have HS:=H_ hS
 have HW:=H_ hW1
 clear hS hW1
 go_enter Tryz.func60,Tryz.ntmps60
 go_wp2_with fail
 rw [←HW.out]
 refine (HP.out _).mono ?_
 rintro e w1 ⟨rfl,rfl⟩
 obtain ⟨W2,hW2⟩:∃W2,W2=(plainW W1).alloc (.cells #[.slice (some ⟨W1.heap.size+1+1+1+1+1,0,none⟩) 4 4,.slice (some ⟨W1.heap.size+1+1+1+1+1+1,0,none⟩) 1 1] 36):=⟨_,rfl⟩
 obtain ⟨B,hBe⟩:∃B,B=(plainW W1).heap.size:=⟨_,rfl⟩
 obtain ⟨mb,hmbe⟩:∃mb,mb=W1.heap.size+1+1+1+1+1:=⟨_,rfl⟩
 have hpl:=plain_below W1
 have hal:Below (plainW W1).heap.size (plainW W1) W2:=by rw [hW2];exact (Below.refl _ _).alloc (Nat.le_refl _) _
 have hcl:=(plain_c W1).1
 have hmf:=(plain_mesF W1 (fun b=>w.heap.size<b∧b≠mb∧b≠B) (fun b h1 h2=>by omega)).below hal
 have hpt:=(plain_ptm W1).below hal
 have hcr:=(plain_crs W1).below hal
 have hbB:BlkW B [.slice (some ⟨mb,0,none⟩) 4 4,.slice (some ⟨mb+1,0,none⟩) 1 1] W2:=by
  rw [hW2,hBe,hmbe]
  exact DocR.BlkW.new (plainW W1) [.slice (some ⟨W1.heap.size+1+1+1+1+1,0,none⟩) 4 4,.slice (some ⟨W1.heap.size+1+1+1+1+1+1,0,none⟩) 1 1] 36
 have hbR:=(HR1.out.below hpl).below hal
 have hbw:Below w.heap.size w W2:=(HB1.out.trans (hpl.mono HB1.out.size)).trans (hal.mono (HB1.out.trans (hpl.mono HB1.out.size)).size)
 have HWW:=H_ hW2
 have HBE:=H_ hBe
 have HME:=H_ hmbe
 rw [←hmbe] at hmf hpt hcr hcl
 have hmB:w.heap.size<mb∧mb+1<B:=⟨by omega,by rw [hBe];exact hcl⟩
 have HCS:Hid (CS ao len cap g w B mb W2):=H_ ⟨HS.out.kept (row:=none) (OwG.rgrownO hbw none) (fun k e=>by cases e),OwG.rgrownO hbw _,hbB,hbR,hmf,hpt,hcr⟩
 clear hpl hal hmf hpt hcr hcl hbB hbR hbw hW2 hBe hmbe HP HB1 HR1 HS hs1
 go_wp2_with fail
 rw [←HWW.out,←HBE.out,←HME.out]
 clear HW HWW HBE HME
 refine (HN.out 8 _ (by omega) HCS.out.src).mono ?_
 rintro e w3 ⟨v,rfl,hv0,_,hv2,hS3,hg3⟩
 have hv8:v<8:=hv2 (by omega)
 have HC3:=H_ (HCS.out.step hgl hmB hS3 hg3)
 clear hv2 hS3 hg3 HCS
 rcases (show v=0∨v=1∨v=2∨(¬v=0∧¬v=1∧¬v=2) by omega) with rfl|rfl|rfl|⟨n0,n1,n2⟩
 ·have HSB:Hid (∀W,CS ao len cap g w B mb W→(fun (W:World)=>B<W.heap.size∧W.cell? ⟨B,0,none⟩=some (.slice (some ⟨mb,0,none⟩) 4 4)∧W.cell? ⟨B,1,none⟩=some (.slice (some ⟨mb+1,0,none⟩) 1 1)) W):=H_ (fun W h=>⟨h.bB.1.1,h.bB.1.2 0 (by simp),h.bB.1.2 1 (by simp)⟩)
  have hC0:=HC3.out.below (Below.refl w3.heap.size w3).drew
  go_wp2_with fail
  refine wp_region_held_drew (S:=(fun (W:World)=>B<W.heap.size∧W.cell? ⟨B,0,none⟩=some (.slice (some ⟨mb,0,none⟩) 4 4)∧W.cell? ⟨B,1,none⟩=some (.slice (some ⟨mb+1,0,none⟩) 1 1))) (by kernel_rfl) (HSB.out _ hC0) (fun hHeld=>?_)
  generalize w3.drew=kd at *
  refine tk 0 (⟨some 9,.fieldAddr 36 (.tmp 3) 0,0,"l05_catalog.go:191",#[],none⟩) ?_
  refine tk 1 (⟨some 10,.load 33 (.tmp 9),33,"l05_catalog.go:191",#[⟨0,.data⟩],none⟩) ?_
  refine tk 2 (⟨some 11,.move (.tmp 0),94,"l05_catalog.go:191",#[],none⟩) ?_
  refine tk 4 (⟨some 13,.move (.tmp 0),94,"l05_catalog.go:191",#[],none⟩) ?_
  refine rd 3 (⟨some 12,.call {callee:=Callee.value (.func 65),args:=#[.tmp 11,.const (Value.int IntKind.i64 4)],argTypes:=#[94,2]},2,"l05_catalog.go:191",#[⟨2,.data⟩],none⟩) (fun K hK=>?_)
  go_simp
  go_at_call 65
  refine (HN.out 4 _ (by omega) hC0.src).mono ?_
  rintro e q1 ⟨v1,rfl,lo1,-,hi1,hS1,hg1⟩
  have ht1:v1<4:=hi1 (by omega)
  obtain ⟨jj,rfl⟩:∃j:Nat,v1=(j:Int):=⟨v1.toNat,by omega⟩
  have hjj4:jj<4:=by omega
  have hjj4i:((jj:Nat):Int)<4:=by omega
  have hC1:=hC0.step hgl hmB hS1 hg1
  clear hi1 lo1 ht1
  try go_wp2_with fail
  have hsl:=fun W=>sliceM mb jj hjj4 W
  have hk1:=HSB.out _ hC1
  refine hK.out _ _ hk1 (fun _=>?_)
  clear hK K
  try simp only [Act.put,SL]
  refine rd 5 (⟨some 14,.call {callee:=Callee.value (.func 107),args:=#[.tmp 13],argTypes:=#[94]},117,"l05_catalog.go:191",#[⟨4,.data⟩,⟨3,.chain⟩],none⟩) (fun K hK=>?_)
  go_simp
  have hlB:B<q1.heap.size:=hC1.bB.1.1
  go_at_call 107
  refine (HM.out _ hC1.src).mono ?_
  rintro e q2 ⟨⟨m,ta,tc,rfl,hT,hf,hn,ht⟩,hS2,hg2⟩
  have hC2:=hC1.step hgl hmB hS2 hg2
  have hav:∀b o,ta=some ⟨b,o,none⟩→w.heap.size<b∧b≠mb∧b≠B:=fun b o e=>by have:=hf b o e;omega
  try go_wp2_with fail
  have hk2:=HSB.out _ hC2
  refine hK.out _ _ hk2 (fun _=>?_)
  clear hK K
  try simp only [Act.put,SL]
  refine tk 6 (⟨some 15,.indexAddr 33 (.tmp 10) (.tmp 12),0,"l05_catalog.go:191",#[⟨1,.data⟩,⟨3,.data⟩,⟨0,.phase⟩,⟨1,.phase⟩,⟨2,.phase⟩,⟨3,.phase⟩,⟨4,.phase⟩,⟨5,.phase⟩],none⟩) ?_
  refine rd 7 (⟨none,.store 117 (.tmp 15) (.tmp 14),0,"l05_catalog.go:191",#[⟨6,.data⟩,⟨5,.data⟩,⟨5,.chain⟩,⟨0,.phase⟩,⟨1,.phase⟩,⟨2,.phase⟩,⟨3,.phase⟩,⟨4,.phase⟩,⟨5,.phase⟩],none⟩) (fun K hK=>?_)
  obtain ⟨u0,k0⟩:=hC2.ptm.has (jj*6) (by omega)
  have z0:=hC2.ptm.free (jj*6) (by omega)
  obtain ⟨u1,k1⟩:=hC2.ptm.has (jj*6+1) (by omega)
  have z1:=hC2.ptm.free (jj*6+1) (by omega)
  obtain ⟨u2,k2⟩:=hC2.ptm.has (jj*6+2) (by omega)
  have z2:=hC2.ptm.free (jj*6+2) (by omega)
  obtain ⟨u3,k3⟩:=hC2.ptm.has (jj*6+3) (by omega)
  have z3:=hC2.ptm.free (jj*6+3) (by omega)
  obtain ⟨u4,k4⟩:=hC2.ptm.has (jj*6+4) (by omega)
  have z4:=hC2.ptm.free (jj*6+4) (by omega)
  obtain ⟨u5,k5⟩:=hC2.ptm.has (jj*6+5) (by omega)
  have z5:=hC2.ptm.free (jj*6+5) (by omega)
  have hml:=hC2.ptm.lt
  go_simp
  try go_wp2_with fail
  have hgr:=StR.stL_grown mb (meC m ta tc) (jj*6) q2
  have hmp:=hC2.mes.put (by omega) hC2.ptm jj hjj4 m ta tc hT hav hn ht
  have hcr:=crs_kept hC2.crs hgr (by omega)
  have hbB:=OwG.blkW_grown hC2.bB hgr (by simp only [ne_eq,Option.some.injEq];omega)
  have hbR:=OwG.blkW_grown hC2.bR hgr (by simp only [ne_eq,Option.some.injEq];omega)
  have hsr:=hC2.src.kept hgr (fun k e=>by cases e;omega)
  have hgw:=hC2.grew.andThen hgr (fun k e=>by cases e;exact .inl (by omega))
  simp only [StR.stL,meC,Nat.add_assoc,Nat.reduceAdd] at hgr hmp hcr hbB hbR hsr hgw
  clear k0 z0 k1 z1 k2 z2 k3 z3 k4 z4 k5 z5
  have hk3:(fun (W:World)=>B<W.heap.size∧W.cell? ⟨B,0,none⟩=some (.slice (some ⟨mb,0,none⟩) 4 4)∧W.cell? ⟨B,1,none⟩=some (.slice (some ⟨mb+1,0,none⟩) 1 1)) _:=⟨hbB.1.1,hbB.1.2 0 (by simp),hbB.1.2 1 (by simp)⟩
  refine hK.out _ _ hk3 (fun _=>?_)
  clear hK K
  try simp only [Act.put,SL]
  refine wpAnyH_done (by kernel_rfl) ?_ _
  generalize ((((((q2.setCell ⟨mb,jj*6,none⟩ (.string m.n)).setCell ⟨mb,jj*6+1,none⟩ (.int .i64 m.g)).setCell ⟨mb,jj*6+2,none⟩ (.bool m.wh)).setCell ⟨mb,jj*6+3,none⟩ (.int .i64 m.f)).setCell ⟨mb,jj*6+4,none⟩ (.int .i64 m.l)).setCell ⟨mb,jj*6+5,none⟩ (.slice ta m.ts.length tc))=WS at *
  have hln:(plainM.set jj m).length=4:=by simp [plainM]
  have HF:=H_ (show CaOut ao len cap g w (.returned (.agg #[.slice (some ⟨mb,0,none⟩) (plainM.set jj m).length 4,.slice (some ⟨mb+1,0,none⟩) plainC.cs.length 1])) (StR.stL WS w.heap.size 0 [.slice (some ⟨mb,0,none⟩) 4 4,.slice (some ⟨mb+1,0,none⟩) 1 1]) from by
   have hr:=StR.stL_grown w.heap.size [.slice (some ⟨mb,0,none⟩) 4 4,.slice (some ⟨mb+1,0,none⟩) 1 1] 0 WS
   exact CS.fin (c:=⟨plainM.set jj m,plainC.cs⟩) hsr hgw hgl (by rw [show (⟨plainM.set jj m,plainC.cs⟩:Ca).ms.length=4 from hln];exact (hmp.kept hr (by omega) (by omega)).mes) (crs_kept hcr hr (by omega)) (small_of hmp (by omega) (by decide) (by decide)) (fun W' hsz hk=>⟨(by rw [show (⟨plainM.set jj m,plainC.cs⟩:Ca).ms.length=4 from hln];exact ((hmp.kept hr (by omega) (by omega)).kp (fun b h=>Nat.le_of_lt h.1) (by omega) hsz hk).mes),crs_kp (crs_kept hcr hr (by omega)) hsz (fun b o e hl=>hk b (by cases e;omega) hl)⟩))
  simp only [StR.stL,Nat.zero_add,Nat.reduceAdd] at HF
  rw [hln] at HF
  have b0:WS.cell? ⟨B,0,none⟩=some (.slice (some ⟨mb,0,none⟩) 4 4):=hbB.1.2 0 (by simp)
  have b1:WS.cell? ⟨B,1,none⟩=some (.slice (some ⟨mb+1,0,none⟩) 1 1):=hbB.1.2 1 (by simp)
  have bl:=hbB.1.1
  have r0:WS.cell? ⟨w.heap.size,0,none⟩=some (.slice none 0 0):=hbR.1.2 0 (by simp)
  have r1:WS.cell? ⟨w.heap.size,1,none⟩=some (.slice none 0 0):=hbR.1.2 1 (by simp)
  have rl:=hbR.1.1
  have f0:=hbR.2 0 (by simp)
  have f1:=hbR.2 1 (by simp)
  have hne:¬B=w.heap.size:=by omega
  go_wp2_with fail
  refine bodyPost_ret (v:=.agg #[.slice (some ⟨mb,0,none⟩) 4 4,.slice (some ⟨mb+1,0,none⟩) 1 1]) (by simp [results,Tryz.results60,go_sem,r0,r1]) rfl HF.out
 ·have hC0:=HC3.out.below (Below.refl w3.heap.size w3).drew
  go_wp2_with fail
  refine wp_region_held_drew (S:=(fun (W:World)=>B<W.heap.size)) (by kernel_rfl) hC0.bB.1.1 (fun hHeld=>?_)
  generalize w3.drew=kd at *
  refine tk 0 (⟨some 18,.fieldAddr 36 (.tmp 3) 0,0,"l05_catalog.go:193",#[],none⟩) ?_
  refine tk 2 (⟨some 20,.move (.tmp 0),94,"l05_catalog.go:193",#[],none⟩) ?_
  refine wpAnyH_ready (rs:=[1,3]) (by kernel_rfl) (by simp) ?_
  refine AllReadyH.cons (o:=⟨some 19,.load 33 (.tmp 18),33,"l05_catalog.go:193",#[⟨0,.data⟩],none⟩) rfl (fun K hK=>?_) (AllReadyH.cons (o:=⟨some 21,.call {callee:=Callee.value (.func 65),args:=#[.tmp 20,.const (Value.int IntKind.i64 4)],argTypes:=#[94,2]},2,"l05_catalog.go:193",#[⟨2,.data⟩],none⟩) rfl (fun K hK=>?_) AllReadyH.nil)
  ·have k0:kd.cell? ⟨B,0,none⟩=some (.slice (some ⟨mb,0,none⟩) 4 4):=hC0.bB.1.2 0 (by simp)
   have kl:=hC0.bB.1.1
   go_simp
   try go_wp2_with fail
   clear k0 kl
   have hk1:(fun (W:World)=>B<W.heap.size) _:=hC0.bB.1.1
   refine hK.out _ _ hk1 (fun _=>?_)
   clear hK K
   try simp only [Act.put,SL]
   refine rd 3 (⟨some 21,.call {callee:=Callee.value (.func 65),args:=#[.tmp 20,.const (Value.int IntKind.i64 4)],argTypes:=#[94,2]},2,"l05_catalog.go:193",#[⟨2,.data⟩],none⟩) (fun K hK=>?_)
   go_simp
   go_at_call 65
   refine (HN.out 4 _ (by omega) hC0.src).mono ?_
   rintro e q2 ⟨v2,rfl,lo2,-,hi2,hS2,hg2⟩
   have ht2:v2<4:=hi2 (by omega)
   obtain ⟨jj,rfl⟩:∃j:Nat,v2=(j:Int):=⟨v2.toNat,by omega⟩
   have hjj4:jj<4:=by omega
   have hjj4i:((jj:Nat):Int)<4:=by omega
   have hC2:=hC0.step hgl hmB hS2 hg2
   clear hi2 lo2 ht2
   try go_wp2_with fail
   have hsl:=fun W=>sliceM mb jj hjj4 W
   have hk2:(fun (W:World)=>B<W.heap.size) _:=hC2.bB.1.1
   refine hK.out _ _ hk2 (fun _=>?_)
   clear hK K
   try simp only [Act.put,SL]
   refine tk 4 (⟨some 22,.slice 33 (.tmp 19) (some (.tmp 21)) none none,33,"l05_catalog.go:193",#[⟨1,.data⟩,⟨3,.data⟩],none⟩) ?_
   refine tk 5 (⟨some 23,.fieldAddr 36 (.tmp 3) 0,0,"l05_catalog.go:193",#[⟨0,.phase⟩,⟨1,.phase⟩,⟨2,.phase⟩,⟨3,.phase⟩,⟨4,.phase⟩],none⟩) ?_
   refine rd 6 (⟨none,.store 33 (.tmp 23) (.tmp 22),0,"l05_catalog.go:193",#[⟨5,.data⟩,⟨4,.data⟩,⟨3,.chain⟩,⟨0,.phase⟩,⟨1,.phase⟩,⟨2,.phase⟩,⟨3,.phase⟩,⟨4,.phase⟩],none⟩) (fun K hK=>?_)
   have k0:q2.cell? ⟨B,0,none⟩=some (.slice (some ⟨mb,0,none⟩) 4 4):=hC2.bB.1.2 0 (by simp)
   have z0:=hC2.bB.2 0 (by simp)
   have hml:=hC2.bB.1.1
   go_simp
   try go_wp2_with fail
   have hgr:=RowG.grown_set q2 B 0 (.slice (some ⟨mb,jj*6,none⟩) (4-jj) (4-jj))
   have hmp:=(hC2.mes.drop jj (by omega)).kept hgr (by omega) (by omega)
   have hcr:=crs_kept hC2.crs hgr (by omega)
   have hbB:=hC2.bB.set 0 (.slice (some ⟨mb,jj*6,none⟩) (4-jj) (4-jj)) (by simp)
   simp only [List.set_cons_zero] at hbB
   have hbR:=OwG.blkW_grown hC2.bR hgr (by simp only [ne_eq,Option.some.injEq];omega)
   have hsr:=hC2.src.kept hgr (fun k e=>by cases e;omega)
   have hgw:=hC2.grew.andThen hgr (fun k e=>by cases e;exact .inl (by omega))
   clear k0 z0
   have hk3:(fun (W:World)=>B<W.heap.size) _:=hbB.1.1
   refine hK.out _ _ hk3 (fun _=>?_)
   clear hK K
   try simp only [Act.put,SL]
   refine wpAnyH_done (by kernel_rfl) ?_ _
   generalize (q2.setCell ⟨B,0,none⟩ (.slice (some ⟨mb,jj*6,none⟩) (4-jj) (4-jj)))=WS at *
   have hln:(plainM.drop jj).length=4-jj:=by simp [plainM]
   have HF:=H_ (show CaOut ao len cap g w (.returned (.agg #[.slice (some ⟨mb,jj*6,none⟩) (plainM.drop jj).length (4-jj),.slice (some ⟨mb+1,0,none⟩) plainC.cs.length 1])) (StR.stL WS w.heap.size 0 [.slice (some ⟨mb,jj*6,none⟩) (4-jj) (4-jj),.slice (some ⟨mb+1,0,none⟩) 1 1]) from by
    have hr:=StR.stL_grown w.heap.size [.slice (some ⟨mb,jj*6,none⟩) (4-jj) (4-jj),.slice (some ⟨mb+1,0,none⟩) 1 1] 0 WS
    exact CS.fin (c:=⟨plainM.drop jj,plainC.cs⟩) hsr hgw hgl (by rw [show (⟨plainM.drop jj,plainC.cs⟩:Ca).ms.length=4-jj from hln];exact (hmp.kept hr (by omega) (by omega)).mes) (crs_kept hcr hr (by omega)) (small_of hmp (by omega) (by decide) (by decide)) (fun W' hsz hk=>⟨(by rw [show (⟨plainM.drop jj,plainC.cs⟩:Ca).ms.length=4-jj from hln];exact ((hmp.kept hr (by omega) (by omega)).kp (fun b h=>Nat.le_of_lt h.1) (by omega) hsz hk).mes),crs_kp (crs_kept hcr hr (by omega)) hsz (fun b o e hl=>hk b (by cases e;omega) hl)⟩))
   simp only [StR.stL,Nat.zero_add,Nat.reduceAdd] at HF
   rw [hln] at HF
   have b0:WS.cell? ⟨B,0,none⟩=some (.slice (some ⟨mb,jj*6,none⟩) (4-jj) (4-jj)):=hbB.1.2 0 (by simp)
   have b1:WS.cell? ⟨B,1,none⟩=some (.slice (some ⟨mb+1,0,none⟩) 1 1):=hbB.1.2 1 (by simp)
   have bl:=hbB.1.1
   have r0:WS.cell? ⟨w.heap.size,0,none⟩=some (.slice none 0 0):=hbR.1.2 0 (by simp)
   have r1:WS.cell? ⟨w.heap.size,1,none⟩=some (.slice none 0 0):=hbR.1.2 1 (by simp)
   have rl:=hbR.1.1
   have f0:=hbR.2 0 (by simp)
   have f1:=hbR.2 1 (by simp)
   have hne:¬B=w.heap.size:=by omega
   go_wp2_with fail
   refine bodyPost_ret (v:=.agg #[.slice (some ⟨mb,jj*6,none⟩) (4-jj) (4-jj),.slice (some ⟨mb+1,0,none⟩) 1 1]) (by simp [results,Tryz.results60,go_sem,r0,r1]) rfl HF.out
  ·go_simp
   go_at_call 65
   refine (HN.out 4 _ (by omega) hC0.src).mono ?_
   rintro e q1 ⟨v1,rfl,lo1,-,hi1,hS1,hg1⟩
   have ht1:v1<4:=hi1 (by omega)
   obtain ⟨jj,rfl⟩:∃j:Nat,v1=(j:Int):=⟨v1.toNat,by omega⟩
   have hjj4:jj<4:=by omega
   have hjj4i:((jj:Nat):Int)<4:=by omega
   have hC1:=hC0.step hgl hmB hS1 hg1
   clear hi1 lo1 ht1
   try go_wp2_with fail
   have hsl:=fun W=>sliceM mb jj hjj4 W
   have hk1:(fun (W:World)=>B<W.heap.size) _:=hC1.bB.1.1
   refine hK.out _ _ hk1 (fun _=>?_)
   clear hK K
   try simp only [Act.put,SL]
   refine rd 1 (⟨some 19,.load 33 (.tmp 18),33,"l05_catalog.go:193",#[⟨0,.data⟩],none⟩) (fun K hK=>?_)
   have k0:q1.cell? ⟨B,0,none⟩=some (.slice (some ⟨mb,0,none⟩) 4 4):=hC1.bB.1.2 0 (by simp)
   have kl:=hC1.bB.1.1
   go_simp
   try go_wp2_with fail
   clear k0 kl
   have hk2:(fun (W:World)=>B<W.heap.size) _:=hC1.bB.1.1
   refine hK.out _ _ hk2 (fun _=>?_)
   clear hK K
   try simp only [Act.put,SL]
   refine tk 4 (⟨some 22,.slice 33 (.tmp 19) (some (.tmp 21)) none none,33,"l05_catalog.go:193",#[⟨1,.data⟩,⟨3,.data⟩],none⟩) ?_
   refine tk 5 (⟨some 23,.fieldAddr 36 (.tmp 3) 0,0,"l05_catalog.go:193",#[⟨0,.phase⟩,⟨1,.phase⟩,⟨2,.phase⟩,⟨3,.phase⟩,⟨4,.phase⟩],none⟩) ?_
   refine rd 6 (⟨none,.store 33 (.tmp 23) (.tmp 22),0,"l05_catalog.go:193",#[⟨5,.data⟩,⟨4,.data⟩,⟨3,.chain⟩,⟨0,.phase⟩,⟨1,.phase⟩,⟨2,.phase⟩,⟨3,.phase⟩,⟨4,.phase⟩],none⟩) (fun K hK=>?_)
   have k0:q1.cell? ⟨B,0,none⟩=some (.slice (some ⟨mb,0,none⟩) 4 4):=hC1.bB.1.2 0 (by simp)
   have z0:=hC1.bB.2 0 (by simp)
   have hml:=hC1.bB.1.1
   go_simp
   try go_wp2_with fail
   have hgr:=RowG.grown_set q1 B 0 (.slice (some ⟨mb,jj*6,none⟩) (4-jj) (4-jj))
   have hmp:=(hC1.mes.drop jj (by omega)).kept hgr (by omega) (by omega)
   have hcr:=crs_kept hC1.crs hgr (by omega)
   have hbB:=hC1.bB.set 0 (.slice (some ⟨mb,jj*6,none⟩) (4-jj) (4-jj)) (by simp)
   simp only [List.set_cons_zero] at hbB
   have hbR:=OwG.blkW_grown hC1.bR hgr (by simp only [ne_eq,Option.some.injEq];omega)
   have hsr:=hC1.src.kept hgr (fun k e=>by cases e;omega)
   have hgw:=hC1.grew.andThen hgr (fun k e=>by cases e;exact .inl (by omega))
   clear k0 z0
   have hk3:(fun (W:World)=>B<W.heap.size) _:=hbB.1.1
   refine hK.out _ _ hk3 (fun _=>?_)
   clear hK K
   try simp only [Act.put,SL]
   refine wpAnyH_done (by kernel_rfl) ?_ _
   generalize (q1.setCell ⟨B,0,none⟩ (.slice (some ⟨mb,jj*6,none⟩) (4-jj) (4-jj)))=WS at *
   have hln:(plainM.drop jj).length=4-jj:=by simp [plainM]
   have HF:=H_ (show CaOut ao len cap g w (.returned (.agg #[.slice (some ⟨mb,jj*6,none⟩) (plainM.drop jj).length (4-jj),.slice (some ⟨mb+1,0,none⟩) plainC.cs.length 1])) (StR.stL WS w.heap.size 0 [.slice (some ⟨mb,jj*6,none⟩) (4-jj) (4-jj),.slice (some ⟨mb+1,0,none⟩) 1 1]) from by
    have hr:=StR.stL_grown w.heap.size [.slice (some ⟨mb,jj*6,none⟩) (4-jj) (4-jj),.slice (some ⟨mb+1,0,none⟩) 1 1] 0 WS
    exact CS.fin (c:=⟨plainM.drop jj,plainC.cs⟩) hsr hgw hgl (by rw [show (⟨plainM.drop jj,plainC.cs⟩:Ca).ms.length=4-jj from hln];exact (hmp.kept hr (by omega) (by omega)).mes) (crs_kept hcr hr (by omega)) (small_of hmp (by omega) (by decide) (by decide)) (fun W' hsz hk=>⟨(by rw [show (⟨plainM.drop jj,plainC.cs⟩:Ca).ms.length=4-jj from hln];exact ((hmp.kept hr (by omega) (by omega)).kp (fun b h=>Nat.le_of_lt h.1) (by omega) hsz hk).mes),crs_kp (crs_kept hcr hr (by omega)) hsz (fun b o e hl=>hk b (by cases e;omega) hl)⟩))
   simp only [StR.stL,Nat.zero_add,Nat.reduceAdd] at HF
   rw [hln] at HF
   have b0:WS.cell? ⟨B,0,none⟩=some (.slice (some ⟨mb,jj*6,none⟩) (4-jj) (4-jj)):=hbB.1.2 0 (by simp)
   have b1:WS.cell? ⟨B,1,none⟩=some (.slice (some ⟨mb+1,0,none⟩) 1 1):=hbB.1.2 1 (by simp)
   have bl:=hbB.1.1
   have r0:WS.cell? ⟨w.heap.size,0,none⟩=some (.slice none 0 0):=hbR.1.2 0 (by simp)
   have r1:WS.cell? ⟨w.heap.size,1,none⟩=some (.slice none 0 0):=hbR.1.2 1 (by simp)
   have rl:=hbR.1.1
   have f0:=hbR.2 0 (by simp)
   have f1:=hbR.2 1 (by simp)
   have hne:¬B=w.heap.size:=by omega
   go_wp2_with fail
   refine bodyPost_ret (v:=.agg #[.slice (some ⟨mb,jj*6,none⟩) (4-jj) (4-jj),.slice (some ⟨mb+1,0,none⟩) 1 1]) (by simp [results,Tryz.results60,go_sem,r0,r1]) rfl HF.out
 ·have gz2:0<2:=by omega
  have gz3:1<1+1:=by omega
  have gz4:1+1≤maxLen:=by unfold maxLen;omega
  have gz5:(1+1)*24≤140737488355328:=by omega
  have hC0:=HC3.out.below (Below.refl w3.heap.size w3).drew
  go_wp2_with fail
  refine wp_region_held_drew (S:=(fun (W:World)=>B<W.heap.size)) (by kernel_rfl) hC0.bB.1.1 (fun hHeld=>?_)
  generalize w3.drew=kd at *
  apply memoT (fun sb ib tt T W=>CS ao len cap g w B mb W∧BlkW ib [.int .i64 (-1),.int .i64 0,.int .i64 1000,.int .i64 1000000000001] W∧T.size≤100∧tt<4)
  intro TAIL
  ·refine tk 0 (⟨some 26,.fieldAddr 36 (.tmp 3) 1,0,"l05_catalog.go:195",#[],none⟩) ?_
   refine tk 2 (⟨some 28,.move (.tmp 0),94,"l05_catalog.go:195",#[],none⟩) ?_
   refine tk 6 (⟨some 32,.move (.tmp 0),94,"l05_catalog.go:195",#[],none⟩) ?_
   refine wpAnyH_ready (rs:=[1,3,5]) (by kernel_rfl) (by simp) ?_
   refine AllReadyH.cons (o:=⟨some 27,.load 34 (.tmp 26),34,"l05_catalog.go:195",#[⟨0,.data⟩],none⟩) rfl (fun K hK=>?_) (AllReadyH.cons (o:=⟨some 29,.buildSlice 64 2 #[(0,.const (Value.string {data:=#[97,110,110]})),(1,.const (Value.string {data:=#[98,111,98]}))],64,"l05_catalog.go:195",#[],none⟩) rfl (fun K hK=>?_) (AllReadyH.cons (o:=⟨some 31,.buildSlice 101 4 #[(0,.const (Value.int IntKind.i64 (-1))),(1,.const (Value.int IntKind.i64 0)),(2,.const (Value.int IntKind.i64 1000)),(3,.const (Value.int IntKind.i64 1000000000001))],101,"l05_catalog.go:195",#[],none⟩) rfl (fun K hK=>?_) AllReadyH.nil))
   ·have k1:kd.cell? ⟨B,1,none⟩=some (.slice (some ⟨mb+1,0,none⟩) 1 1):=hC0.bB.1.2 1 (by simp)
    have kl:=hC0.bB.1.1
    go_simp
    try go_wp2_with fail
    clear k1 kl
    have hk1:(fun (W:World)=>B<W.heap.size) _:=hC0.bB.1.1
    refine hK.out _ _ hk1 (fun _=>?_)
    clear hK K
    try simp only [Act.put,SL]
    refine wpAnyH_ready (rs:=[3,5]) (by kernel_rfl) (by simp) ?_
    refine AllReadyH.cons (o:=⟨some 29,.buildSlice 64 2 #[(0,.const (Value.string {data:=#[97,110,110]})),(1,.const (Value.string {data:=#[98,111,98]}))],64,"l05_catalog.go:195",#[],none⟩) rfl (fun K hK=>?_) (AllReadyH.cons (o:=⟨some 31,.buildSlice 101 4 #[(0,.const (Value.int IntKind.i64 (-1))),(1,.const (Value.int IntKind.i64 0)),(2,.const (Value.int IntKind.i64 1000)),(3,.const (Value.int IntKind.i64 1000000000001))],101,"l05_catalog.go:195",#[],none⟩) rfl (fun K hK=>?_) AllReadyH.nil)
    ·go_simp
     try go_wp2_with fail
     have hb2:Below kd.heap.size kd (kd.alloc (Obj.cells #[.string ⟨#[97,110,110]⟩,.string ⟨#[98,111,98]⟩] 9)):=(Below.refl _ _).alloc (Nat.le_refl _) _
     have hC2:=hC0.below hb2
     have hP2:=DocR.BlkW.new kd [.string ⟨#[97,110,110]⟩,.string ⟨#[98,111,98]⟩] 9
     have hlsb:B<kd.heap.size:=hC0.bB.1.1
     have hgsb:g<kd.heap.size:=hC0.src.lt
     have hk2:(fun (W:World)=>B<W.heap.size) _:=hC2.bB.1.1
     refine hK.out _ _ hk2 (fun _=>?_)
     clear hK K
     try simp only [Act.put,SL]
     obtain ⟨sb,hsbe⟩:∃z,z=kd.heap.size:=⟨_,rfl⟩
     obtain ⟨k2,hk2e⟩:∃z,z=kd.alloc (Obj.cells #[.string ⟨#[97,110,110]⟩,.string ⟨#[98,111,98]⟩] 9):=⟨_,rfl⟩
     rw [←hsbe] at hP2 hlsb hgsb ⊢
     rw [←hk2e] at hC2 hP2 hk2 ⊢
     clear hb2 hk2e hsbe
     refine wpAnyH_ready (rs:=[4,5]) (by kernel_rfl) (by simp) ?_
     refine AllReadyH.cons (o:=⟨some 30,.call {callee:=Callee.value (.func 61),args:=#[.tmp 28,.tmp 29],argTypes:=#[94,64]},9,"l05_catalog.go:195",#[⟨2,.data⟩,⟨3,.data⟩],none⟩) rfl (fun K hK=>?_) (AllReadyH.cons (o:=⟨some 31,.buildSlice 101 4 #[(0,.const (Value.int IntKind.i64 (-1))),(1,.const (Value.int IntKind.i64 0)),(2,.const (Value.int IntKind.i64 1000)),(3,.const (Value.int IntKind.i64 1000000000001))],101,"l05_catalog.go:195",#[],none⟩) rfl (fun K hK=>?_) AllReadyH.nil)
     ·go_simp
      have hstr:Strs sb 2 100 k2:=⟨hP2.1.1,fun j hj=>by
       match j,hj with
       | 0,_=>exact ⟨_,hP2.1.2 0 (by simp),by decide⟩
       | 1,_=>exact ⟨_,hP2.1.2 1 (by simp),by decide⟩⟩
      go_at_call 61
      refine (pick_any ao len cap g sb 2 100 _ (by omega) (by omega) (by omega) hC2.src hstr).mono ?_
      rintro e q3 ⟨⟨T,rfl,hTs⟩,hS3,hg3⟩
      have hC3:=hC2.step hgl hmB hS3 hg3
      clear hstr
      try go_wp2_with fail
      have hk3:(fun (W:World)=>B<W.heap.size) _:=hC3.bB.1.1
      refine hK.out _ _ hk3 (fun _=>?_)
      clear hK K
      try simp only [Act.put,SL]
      refine wpAnyH_ready (rs:=[5,7]) (by kernel_rfl) (by simp) ?_
      refine AllReadyH.cons (o:=⟨some 31,.buildSlice 101 4 #[(0,.const (Value.int IntKind.i64 (-1))),(1,.const (Value.int IntKind.i64 0)),(2,.const (Value.int IntKind.i64 1000)),(3,.const (Value.int IntKind.i64 1000000000001))],101,"l05_catalog.go:195",#[],none⟩) rfl (fun K hK=>?_) (AllReadyH.cons (o:=⟨some 33,.call {callee:=Callee.value (.func 65),args:=#[.tmp 32,.const (Value.int IntKind.i64 4)],argTypes:=#[94,2]},2,"l05_catalog.go:195",#[⟨6,.data⟩,⟨4,.chain⟩],none⟩) rfl (fun K hK=>?_) AllReadyH.nil)
      ·go_simp
       try go_wp2_with fail
       have hb4:Below q3.heap.size q3 (q3.alloc (Obj.cells #[.int .i64 (-1),.int .i64 0,.int .i64 1000,.int .i64 1000000000001] 2)):=(Below.refl _ _).alloc (Nat.le_refl _) _
       have hC4:=hC3.below hb4
       have hI4:=DocR.BlkW.new q3 [.int .i64 (-1),.int .i64 0,.int .i64 1000,.int .i64 1000000000001] 2
       have hlib:B<q3.heap.size:=hC3.bB.1.1
       have hgib:g<q3.heap.size:=hC3.src.lt
       have hk4:(fun (W:World)=>B<W.heap.size) _:=hC4.bB.1.1
       refine hK.out _ _ hk4 (fun _=>?_)
       clear hK K
       try simp only [Act.put,SL]
       obtain ⟨ib,hibe⟩:∃z,z=q3.heap.size:=⟨_,rfl⟩
       obtain ⟨k4,hk4e⟩:∃z,z=q3.alloc (Obj.cells #[.int .i64 (-1),.int .i64 0,.int .i64 1000,.int .i64 1000000000001] 2):=⟨_,rfl⟩
       rw [←hibe] at hI4 hlib hgib ⊢
       rw [←hk4e] at hC4 hI4 hk4 ⊢
       clear hb4 hk4e hibe
       refine rd 7 (⟨some 33,.call {callee:=Callee.value (.func 65),args:=#[.tmp 32,.const (Value.int IntKind.i64 4)],argTypes:=#[94,2]},2,"l05_catalog.go:195",#[⟨6,.data⟩,⟨4,.chain⟩],none⟩) (fun K hK=>?_)
       go_simp
       go_at_call 65
       refine (HN.out 4 _ (by omega) hC4.src).mono ?_
       rintro e q5 ⟨v5,rfl,lo5,-,hi5,hS5,hg5⟩
       have ht5:v5<4:=hi5 (by omega)
       obtain ⟨tt,rfl⟩:∃j:Nat,v5=(j:Int):=⟨v5.toNat,by omega⟩
       have htt4:tt<4:=by omega
       have htt4i:((tt:Nat):Int)<4:=by omega
       have hC5:=hC4.step hgl hmB hS5 hg5
       have hI5:=OwG.blkW_grown hI4 hg5 (by simp only [ne_eq,Option.some.injEq];omega)
       clear hi5 lo5 ht5
       try go_wp2_with fail
       have hk5:(fun (W:World)=>B<W.heap.size) _:=hC5.bB.1.1
       refine hK.out _ _ hk5 (fun _=>?_)
       clear hK K
       try simp only [Act.put,SL]
       refine tk 8 (⟨some 34,.indexAddr 101 (.tmp 31) (.tmp 33),0,"l05_catalog.go:195",#[⟨5,.data⟩,⟨7,.data⟩],none⟩) ?_
       exact TAIL.out sb ib tt T q5 ⟨hC5,hI5,hTs,htt4⟩
      ·go_simp
       go_at_call 65
       refine (HN.out 4 _ (by omega) hC3.src).mono ?_
       rintro e q4 ⟨v4,rfl,lo4,-,hi4,hS4,hg4⟩
       have ht4:v4<4:=hi4 (by omega)
       obtain ⟨tt,rfl⟩:∃j:Nat,v4=(j:Int):=⟨v4.toNat,by omega⟩
       have htt4:tt<4:=by omega
       have htt4i:((tt:Nat):Int)<4:=by omega
       have hC4:=hC3.step hgl hmB hS4 hg4
       clear hi4 lo4 ht4
       try go_wp2_with fail
       have hk4:(fun (W:World)=>B<W.heap.size) _:=hC4.bB.1.1
       refine hK.out _ _ hk4 (fun _=>?_)
       clear hK K
       try simp only [Act.put,SL]
       refine rd 5 (⟨some 31,.buildSlice 101 4 #[(0,.const (Value.int IntKind.i64 (-1))),(1,.const (Value.int IntKind.i64 0)),(2,.const (Value.int IntKind.i64 1000)),(3,.const (Value.int IntKind.i64 1000000000001))],101,"l05_catalog.go:195",#[],none⟩) (fun K hK=>?_)
       go_simp
       try go_wp2_with fail
       have hb5:Below q4.heap.size q4 (q4.alloc (Obj.cells #[.int .i64 (-1),.int .i64 0,.int .i64 1000,.int .i64 1000000000001] 2)):=(Below.refl _ _).alloc (Nat.le_refl _) _
       have hC5:=hC4.below hb5
       have hI5:=DocR.BlkW.new q4 [.int .i64 (-1),.int .i64 0,.int .i64 1000,.int .i64 1000000000001] 2
       have hlib:B<q4.heap.size:=hC4.bB.1.1
       have hgib:g<q4.heap.size:=hC4.src.lt
       have hk5:(fun (W:World)=>B<W.heap.size) _:=hC5.bB.1.1
       refine hK.out _ _ hk5 (fun _=>?_)
       clear hK K
       try simp only [Act.put,SL]
       obtain ⟨ib,hibe⟩:∃z,z=q4.heap.size:=⟨_,rfl⟩
       obtain ⟨k5,hk5e⟩:∃z,z=q4.alloc (Obj.cells #[.int .i64 (-1),.int .i64 0,.int .i64 1000,.int .i64 1000000000001] 2):=⟨_,rfl⟩
       rw [←hibe] at hI5 hlib hgib ⊢
       rw [←hk5e] at hC5 hI5 hk5 ⊢
       clear hb5 hk5e hibe
       refine tk 8 (⟨some 34,.indexAddr 101 (.tmp 31) (.tmp 33),0,"l05_catalog.go:195",#[⟨5,.data⟩,⟨7,.data⟩],none⟩) ?_
       exact TAIL.out sb ib tt T k5 ⟨hC5,hI5,hTs,htt4⟩
     ·go_simp
      try go_wp2_with fail
      have hb3:Below k2.heap.size k2 (k2.alloc (Obj.cells #[.int .i64 (-1),.int .i64 0,.int .i64 1000,.int .i64 1000000000001] 2)):=(Below.refl _ _).alloc (Nat.le_refl _) _
      have hC3:=hC2.below hb3
      have hP3:=hP2.below hb3
      have hI3:=DocR.BlkW.new k2 [.int .i64 (-1),.int .i64 0,.int .i64 1000,.int .i64 1000000000001] 2
      have hlib:B<k2.heap.size:=hC2.bB.1.1
      have hgib:g<k2.heap.size:=hC2.src.lt
      have hk3:(fun (W:World)=>B<W.heap.size) _:=hC3.bB.1.1
      refine hK.out _ _ hk3 (fun _=>?_)
      clear hK K
      try simp only [Act.put,SL]
      obtain ⟨ib,hibe⟩:∃z,z=k2.heap.size:=⟨_,rfl⟩
      obtain ⟨k3,hk3e⟩:∃z,z=k2.alloc (Obj.cells #[.int .i64 (-1),.int .i64 0,.int .i64 1000,.int .i64 1000000000001] 2):=⟨_,rfl⟩
      rw [←hibe] at hI3 hlib hgib ⊢
      rw [←hk3e] at hC3 hI3 hk3 ⊢
      rw [←hk3e] at hP3
      clear hb3 hk3e hibe
      refine rd 4 (⟨some 30,.call {callee:=Callee.value (.func 61),args:=#[.tmp 28,.tmp 29],argTypes:=#[94,64]},9,"l05_catalog.go:195",#[⟨2,.data⟩,⟨3,.data⟩],none⟩) (fun K hK=>?_)
      go_simp
      have hstr:Strs sb 2 100 k3:=⟨hP3.1.1,fun j hj=>by
       match j,hj with
       | 0,_=>exact ⟨_,hP3.1.2 0 (by simp),by decide⟩
       | 1,_=>exact ⟨_,hP3.1.2 1 (by simp),by decide⟩⟩
      go_at_call 61
      refine (pick_any ao len cap g sb 2 100 _ (by omega) (by omega) (by omega) hC3.src hstr).mono ?_
      rintro e q4 ⟨⟨T,rfl,hTs⟩,hS4,hg4⟩
      have hC4:=hC3.step hgl hmB hS4 hg4
      have hI4:=OwG.blkW_grown hI3 hg4 (by simp only [ne_eq,Option.some.injEq];omega)
      clear hstr
      try go_wp2_with fail
      have hk4:(fun (W:World)=>B<W.heap.size) _:=hC4.bB.1.1
      refine hK.out _ _ hk4 (fun _=>?_)
      clear hK K
      try simp only [Act.put,SL]
      refine rd 7 (⟨some 33,.call {callee:=Callee.value (.func 65),args:=#[.tmp 32,.const (Value.int IntKind.i64 4)],argTypes:=#[94,2]},2,"l05_catalog.go:195",#[⟨6,.data⟩,⟨4,.chain⟩],none⟩) (fun K hK=>?_)
      go_simp
      go_at_call 65
      refine (HN.out 4 _ (by omega) hC4.src).mono ?_
      rintro e q5 ⟨v5,rfl,lo5,-,hi5,hS5,hg5⟩
      have ht5:v5<4:=hi5 (by omega)
      obtain ⟨tt,rfl⟩:∃j:Nat,v5=(j:Int):=⟨v5.toNat,by omega⟩
      have htt4:tt<4:=by omega
      have htt4i:((tt:Nat):Int)<4:=by omega
      have hC5:=hC4.step hgl hmB hS5 hg5
      have hI5:=OwG.blkW_grown hI4 hg5 (by simp only [ne_eq,Option.some.injEq];omega)
      clear hi5 lo5 ht5
      try go_wp2_with fail
      have hk5:(fun (W:World)=>B<W.heap.size) _:=hC5.bB.1.1
      refine hK.out _ _ hk5 (fun _=>?_)
      clear hK K
      try simp only [Act.put,SL]
      refine tk 8 (⟨some 34,.indexAddr 101 (.tmp 31) (.tmp 33),0,"l05_catalog.go:195",#[⟨5,.data⟩,⟨7,.data⟩],none⟩) ?_
      exact TAIL.out sb ib tt T q5 ⟨hC5,hI5,hTs,htt4⟩
    ·go_simp
     try go_wp2_with fail
     have hb2:Below kd.heap.size kd (kd.alloc (Obj.cells #[.int .i64 (-1),.int .i64 0,.int .i64 1000,.int .i64 1000000000001] 2)):=(Below.refl _ _).alloc (Nat.le_refl _) _
     have hC2:=hC0.below hb2
     have hI2:=DocR.BlkW.new kd [.int .i64 (-1),.int .i64 0,.int .i64 1000,.int .i64 1000000000001] 2
     have hlib:B<kd.heap.size:=hC0.bB.1.1
     have hgib:g<kd.heap.size:=hC0.src.lt
     have hk2:(fun (W:World)=>B<W.heap.size) _:=hC2.bB.1.1
     refine hK.out _ _ hk2 (fun _=>?_)
     clear hK K
     try simp only [Act.put,SL]
     obtain ⟨ib,hibe⟩:∃z,z=kd.heap.size:=⟨_,rfl⟩
     obtain ⟨k2,hk2e⟩:∃z,z=kd.alloc (Obj.cells #[.int .i64 (-1),.int .i64 0,.int .i64 1000,.int .i64 1000000000001] 2):=⟨_,rfl⟩
     rw [←hibe] at hI2 hlib hgib ⊢
     rw [←hk2e] at hC2 hI2 hk2 ⊢
     clear hb2 hk2e hibe
     refine rd 3 (⟨some 29,.buildSlice 64 2 #[(0,.const (Value.string {data:=#[97,110,110]})),(1,.const (Value.string {data:=#[98,111,98]}))],64,"l05_catalog.go:195",#[],none⟩) (fun K hK=>?_)
     go_simp
     try go_wp2_with fail
     have hb3:Below k2.heap.size k2 (k2.alloc (Obj.cells #[.string ⟨#[97,110,110]⟩,.string ⟨#[98,111,98]⟩] 9)):=(Below.refl _ _).alloc (Nat.le_refl _) _
     have hC3:=hC2.below hb3
     have hI3:=hI2.below hb3
     have hP3:=DocR.BlkW.new k2 [.string ⟨#[97,110,110]⟩,.string ⟨#[98,111,98]⟩] 9
     have hlsb:B<k2.heap.size:=hC2.bB.1.1
     have hgsb:g<k2.heap.size:=hC2.src.lt
     have hk3:(fun (W:World)=>B<W.heap.size) _:=hC3.bB.1.1
     refine hK.out _ _ hk3 (fun _=>?_)
     clear hK K
     try simp only [Act.put,SL]
     obtain ⟨sb,hsbe⟩:∃z,z=k2.heap.size:=⟨_,rfl⟩
     obtain ⟨k3,hk3e⟩:∃z,z=k2.alloc (Obj.cells #[.string ⟨#[97,110,110]⟩,.string ⟨#[98,111,98]⟩] 9):=⟨_,rfl⟩
     rw [←hsbe] at hP3 hlsb hgsb ⊢
     rw [←hk3e] at hC3 hP3 hk3 ⊢
     rw [←hk3e] at hI3
     clear hb3 hk3e hsbe
     refine rd 4 (⟨some 30,.call {callee:=Callee.value (.func 61),args:=#[.tmp 28,.tmp 29],argTypes:=#[94,64]},9,"l05_catalog.go:195",#[⟨2,.data⟩,⟨3,.data⟩],none⟩) (fun K hK=>?_)
     go_simp
     have hstr:Strs sb 2 100 k3:=⟨hP3.1.1,fun j hj=>by
      match j,hj with
      | 0,_=>exact ⟨_,hP3.1.2 0 (by simp),by decide⟩
      | 1,_=>exact ⟨_,hP3.1.2 1 (by simp),by decide⟩⟩
     go_at_call 61
     refine (pick_any ao len cap g sb 2 100 _ (by omega) (by omega) (by omega) hC3.src hstr).mono ?_
     rintro e q4 ⟨⟨T,rfl,hTs⟩,hS4,hg4⟩
     have hC4:=hC3.step hgl hmB hS4 hg4
     have hI4:=OwG.blkW_grown hI3 hg4 (by simp only [ne_eq,Option.some.injEq];omega)
     clear hstr
     try go_wp2_with fail
     have hk4:(fun (W:World)=>B<W.heap.size) _:=hC4.bB.1.1
     refine hK.out _ _ hk4 (fun _=>?_)
     clear hK K
     try simp only [Act.put,SL]
     refine rd 7 (⟨some 33,.call {callee:=Callee.value (.func 65),args:=#[.tmp 32,.const (Value.int IntKind.i64 4)],argTypes:=#[94,2]},2,"l05_catalog.go:195",#[⟨6,.data⟩,⟨4,.chain⟩],none⟩) (fun K hK=>?_)
     go_simp
     go_at_call 65
     refine (HN.out 4 _ (by omega) hC4.src).mono ?_
     rintro e q5 ⟨v5,rfl,lo5,-,hi5,hS5,hg5⟩
     have ht5:v5<4:=hi5 (by omega)
     obtain ⟨tt,rfl⟩:∃j:Nat,v5=(j:Int):=⟨v5.toNat,by omega⟩
     have htt4:tt<4:=by omega
     have htt4i:((tt:Nat):Int)<4:=by omega
     have hC5:=hC4.step hgl hmB hS5 hg5
     have hI5:=OwG.blkW_grown hI4 hg5 (by simp only [ne_eq,Option.some.injEq];omega)
     clear hi5 lo5 ht5
     try go_wp2_with fail
     have hk5:(fun (W:World)=>B<W.heap.size) _:=hC5.bB.1.1
     refine hK.out _ _ hk5 (fun _=>?_)
     clear hK K
     try simp only [Act.put,SL]
     refine tk 8 (⟨some 34,.indexAddr 101 (.tmp 31) (.tmp 33),0,"l05_catalog.go:195",#[⟨5,.data⟩,⟨7,.data⟩],none⟩) ?_
     exact TAIL.out sb ib tt T q5 ⟨hC5,hI5,hTs,htt4⟩
   ·go_simp
    try go_wp2_with fail
    have hb1:Below kd.heap.size kd (kd.alloc (Obj.cells #[.string ⟨#[97,110,110]⟩,.string ⟨#[98,111,98]⟩] 9)):=(Below.refl _ _).alloc (Nat.le_refl _) _
    have hC1:=hC0.below hb1
    have hP1:=DocR.BlkW.new kd [.string ⟨#[97,110,110]⟩,.string ⟨#[98,111,98]⟩] 9
    have hlsb:B<kd.heap.size:=hC0.bB.1.1
    have hgsb:g<kd.heap.size:=hC0.src.lt
    have hk1:(fun (W:World)=>B<W.heap.size) _:=hC1.bB.1.1
    refine hK.out _ _ hk1 (fun _=>?_)
    clear hK K
    try simp only [Act.put,SL]
    obtain ⟨sb,hsbe⟩:∃z,z=kd.heap.size:=⟨_,rfl⟩
    obtain ⟨k1,hk1e⟩:∃z,z=kd.alloc (Obj.cells #[.string ⟨#[97,110,110]⟩,.string ⟨#[98,111,98]⟩] 9):=⟨_,rfl⟩
    rw [←hsbe] at hP1 hlsb hgsb ⊢
    rw [←hk1e] at hC1 hP1 hk1 ⊢
    clear hb1 hk1e hsbe
    refine wpAnyH_ready (rs:=[1,4,5]) (by kernel_rfl) (by simp) ?_
    refine AllReadyH.cons (o:=⟨some 27,.load 34 (.tmp 26),34,"l05_catalog.go:195",#[⟨0,.data⟩],none⟩) rfl (fun K hK=>?_) (AllReadyH.cons (o:=⟨some 30,.call {callee:=Callee.value (.func 61),args:=#[.tmp 28,.tmp 29],argTypes:=#[94,64]},9,"l05_catalog.go:195",#[⟨2,.data⟩,⟨3,.data⟩],none⟩) rfl (fun K hK=>?_) (AllReadyH.cons (o:=⟨some 31,.buildSlice 101 4 #[(0,.const (Value.int IntKind.i64 (-1))),(1,.const (Value.int IntKind.i64 0)),(2,.const (Value.int IntKind.i64 1000)),(3,.const (Value.int IntKind.i64 1000000000001))],101,"l05_catalog.go:195",#[],none⟩) rfl (fun K hK=>?_) AllReadyH.nil))
    ·have k1:k1.cell? ⟨B,1,none⟩=some (.slice (some ⟨mb+1,0,none⟩) 1 1):=hC1.bB.1.2 1 (by simp)
     have kl:=hC1.bB.1.1
     go_simp
     try go_wp2_with fail
     clear k1 kl
     have hk2:(fun (W:World)=>B<W.heap.size) _:=hC1.bB.1.1
     refine hK.out _ _ hk2 (fun _=>?_)
     clear hK K
     try simp only [Act.put,SL]
     refine wpAnyH_ready (rs:=[4,5]) (by kernel_rfl) (by simp) ?_
     refine AllReadyH.cons (o:=⟨some 30,.call {callee:=Callee.value (.func 61),args:=#[.tmp 28,.tmp 29],argTypes:=#[94,64]},9,"l05_catalog.go:195",#[⟨2,.data⟩,⟨3,.data⟩],none⟩) rfl (fun K hK=>?_) (AllReadyH.cons (o:=⟨some 31,.buildSlice 101 4 #[(0,.const (Value.int IntKind.i64 (-1))),(1,.const (Value.int IntKind.i64 0)),(2,.const (Value.int IntKind.i64 1000)),(3,.const (Value.int IntKind.i64 1000000000001))],101,"l05_catalog.go:195",#[],none⟩) rfl (fun K hK=>?_) AllReadyH.nil)
     ·go_simp
      have hstr:Strs sb 2 100 k1:=⟨hP1.1.1,fun j hj=>by
       match j,hj with
       | 0,_=>exact ⟨_,hP1.1.2 0 (by simp),by decide⟩
       | 1,_=>exact ⟨_,hP1.1.2 1 (by simp),by decide⟩⟩
      go_at_call 61
      refine (pick_any ao len cap g sb 2 100 _ (by omega) (by omega) (by omega) hC1.src hstr).mono ?_
      rintro e q3 ⟨⟨T,rfl,hTs⟩,hS3,hg3⟩
      have hC3:=hC1.step hgl hmB hS3 hg3
      clear hstr
      try go_wp2_with fail
      have hk3:(fun (W:World)=>B<W.heap.size) _:=hC3.bB.1.1
      refine hK.out _ _ hk3 (fun _=>?_)
      clear hK K
      try simp only [Act.put,SL]
      refine wpAnyH_ready (rs:=[5,7]) (by kernel_rfl) (by simp) ?_
      refine AllReadyH.cons (o:=⟨some 31,.buildSlice 101 4 #[(0,.const (Value.int IntKind.i64 (-1))),(1,.const (Value.int IntKind.i64 0)),(2,.const (Value.int IntKind.i64 1000)),(3,.const (Value.int IntKind.i64 1000000000001))],101,"l05_catalog.go:195",#[],none⟩) rfl (fun K hK=>?_) (AllReadyH.cons (o:=⟨some 33,.call {callee:=Callee.value (.func 65),args:=#[.tmp 32,.const (Value.int IntKind.i64 4)],argTypes:=#[94,2]},2,"l05_catalog.go:195",#[⟨6,.data⟩,⟨4,.chain⟩],none⟩) rfl (fun K hK=>?_) AllReadyH.nil)
      ·go_simp
       try go_wp2_with fail
       have hb4:Below q3.heap.size q3 (q3.alloc (Obj.cells #[.int .i64 (-1),.int .i64 0,.int .i64 1000,.int .i64 1000000000001] 2)):=(Below.refl _ _).alloc (Nat.le_refl _) _
       have hC4:=hC3.below hb4
       have hI4:=DocR.BlkW.new q3 [.int .i64 (-1),.int .i64 0,.int .i64 1000,.int .i64 1000000000001] 2
       have hlib:B<q3.heap.size:=hC3.bB.1.1
       have hgib:g<q3.heap.size:=hC3.src.lt
       have hk4:(fun (W:World)=>B<W.heap.size) _:=hC4.bB.1.1
       refine hK.out _ _ hk4 (fun _=>?_)
       clear hK K
       try simp only [Act.put,SL]
       obtain ⟨ib,hibe⟩:∃z,z=q3.heap.size:=⟨_,rfl⟩
       obtain ⟨k4,hk4e⟩:∃z,z=q3.alloc (Obj.cells #[.int .i64 (-1),.int .i64 0,.int .i64 1000,.int .i64 1000000000001] 2):=⟨_,rfl⟩
       rw [←hibe] at hI4 hlib hgib ⊢
       rw [←hk4e] at hC4 hI4 hk4 ⊢
       clear hb4 hk4e hibe
       refine rd 7 (⟨some 33,.call {callee:=Callee.value (.func 65),args:=#[.tmp 32,.const (Value.int IntKind.i64 4)],argTypes:=#[94,2]},2,"l05_catalog.go:195",#[⟨6,.data⟩,⟨4,.chain⟩],none⟩) (fun K hK=>?_)
       go_simp
       go_at_call 65
       refine (HN.out 4 _ (by omega) hC4.src).mono ?_
       rintro e q5 ⟨v5,rfl,lo5,-,hi5,hS5,hg5⟩
       have ht5:v5<4:=hi5 (by omega)
       obtain ⟨tt,rfl⟩:∃j:Nat,v5=(j:Int):=⟨v5.toNat,by omega⟩
       have htt4:tt<4:=by omega
       have htt4i:((tt:Nat):Int)<4:=by omega
       have hC5:=hC4.step hgl hmB hS5 hg5
       have hI5:=OwG.blkW_grown hI4 hg5 (by simp only [ne_eq,Option.some.injEq];omega)
       clear hi5 lo5 ht5
       try go_wp2_with fail
       have hk5:(fun (W:World)=>B<W.heap.size) _:=hC5.bB.1.1
       refine hK.out _ _ hk5 (fun _=>?_)
       clear hK K
       try simp only [Act.put,SL]
       refine tk 8 (⟨some 34,.indexAddr 101 (.tmp 31) (.tmp 33),0,"l05_catalog.go:195",#[⟨5,.data⟩,⟨7,.data⟩],none⟩) ?_
       exact TAIL.out sb ib tt T q5 ⟨hC5,hI5,hTs,htt4⟩
      ·go_simp
       go_at_call 65
       refine (HN.out 4 _ (by omega) hC3.src).mono ?_
       rintro e q4 ⟨v4,rfl,lo4,-,hi4,hS4,hg4⟩
       have ht4:v4<4:=hi4 (by omega)
       obtain ⟨tt,rfl⟩:∃j:Nat,v4=(j:Int):=⟨v4.toNat,by omega⟩
       have htt4:tt<4:=by omega
       have htt4i:((tt:Nat):Int)<4:=by omega
       have hC4:=hC3.step hgl hmB hS4 hg4
       clear hi4 lo4 ht4
       try go_wp2_with fail
       have hk4:(fun (W:World)=>B<W.heap.size) _:=hC4.bB.1.1
       refine hK.out _ _ hk4 (fun _=>?_)
       clear hK K
       try simp only [Act.put,SL]
       refine rd 5 (⟨some 31,.buildSlice 101 4 #[(0,.const (Value.int IntKind.i64 (-1))),(1,.const (Value.int IntKind.i64 0)),(2,.const (Value.int IntKind.i64 1000)),(3,.const (Value.int IntKind.i64 1000000000001))],101,"l05_catalog.go:195",#[],none⟩) (fun K hK=>?_)
       go_simp
       try go_wp2_with fail
       have hb5:Below q4.heap.size q4 (q4.alloc (Obj.cells #[.int .i64 (-1),.int .i64 0,.int .i64 1000,.int .i64 1000000000001] 2)):=(Below.refl _ _).alloc (Nat.le_refl _) _
       have hC5:=hC4.below hb5
       have hI5:=DocR.BlkW.new q4 [.int .i64 (-1),.int .i64 0,.int .i64 1000,.int .i64 1000000000001] 2
       have hlib:B<q4.heap.size:=hC4.bB.1.1
       have hgib:g<q4.heap.size:=hC4.src.lt
       have hk5:(fun (W:World)=>B<W.heap.size) _:=hC5.bB.1.1
       refine hK.out _ _ hk5 (fun _=>?_)
       clear hK K
       try simp only [Act.put,SL]
       obtain ⟨ib,hibe⟩:∃z,z=q4.heap.size:=⟨_,rfl⟩
       obtain ⟨k5,hk5e⟩:∃z,z=q4.alloc (Obj.cells #[.int .i64 (-1),.int .i64 0,.int .i64 1000,.int .i64 1000000000001] 2):=⟨_,rfl⟩
       rw [←hibe] at hI5 hlib hgib ⊢
       rw [←hk5e] at hC5 hI5 hk5 ⊢
       clear hb5 hk5e hibe
       refine tk 8 (⟨some 34,.indexAddr 101 (.tmp 31) (.tmp 33),0,"l05_catalog.go:195",#[⟨5,.data⟩,⟨7,.data⟩],none⟩) ?_
       exact TAIL.out sb ib tt T k5 ⟨hC5,hI5,hTs,htt4⟩
     ·go_simp
      try go_wp2_with fail
      have hb3:Below k1.heap.size k1 (k1.alloc (Obj.cells #[.int .i64 (-1),.int .i64 0,.int .i64 1000,.int .i64 1000000000001] 2)):=(Below.refl _ _).alloc (Nat.le_refl _) _
      have hC3:=hC1.below hb3
      have hP3:=hP1.below hb3
      have hI3:=DocR.BlkW.new k1 [.int .i64 (-1),.int .i64 0,.int .i64 1000,.int .i64 1000000000001] 2
      have hlib:B<k1.heap.size:=hC1.bB.1.1
      have hgib:g<k1.heap.size:=hC1.src.lt
      have hk3:(fun (W:World)=>B<W.heap.size) _:=hC3.bB.1.1
      refine hK.out _ _ hk3 (fun _=>?_)
      clear hK K
      try simp only [Act.put,SL]
      obtain ⟨ib,hibe⟩:∃z,z=k1.heap.size:=⟨_,rfl⟩
      obtain ⟨k3,hk3e⟩:∃z,z=k1.alloc (Obj.cells #[.int .i64 (-1),.int .i64 0,.int .i64 1000,.int .i64 1000000000001] 2):=⟨_,rfl⟩
      rw [←hibe] at hI3 hlib hgib ⊢
      rw [←hk3e] at hC3 hI3 hk3 ⊢
      rw [←hk3e] at hP3
      clear hb3 hk3e hibe
      refine rd 4 (⟨some 30,.call {callee:=Callee.value (.func 61),args:=#[.tmp 28,.tmp 29],argTypes:=#[94,64]},9,"l05_catalog.go:195",#[⟨2,.data⟩,⟨3,.data⟩],none⟩) (fun K hK=>?_)
      go_simp
      have hstr:Strs sb 2 100 k3:=⟨hP3.1.1,fun j hj=>by
       match j,hj with
       | 0,_=>exact ⟨_,hP3.1.2 0 (by simp),by decide⟩
       | 1,_=>exact ⟨_,hP3.1.2 1 (by simp),by decide⟩⟩
      go_at_call 61
      refine (pick_any ao len cap g sb 2 100 _ (by omega) (by omega) (by omega) hC3.src hstr).mono ?_
      rintro e q4 ⟨⟨T,rfl,hTs⟩,hS4,hg4⟩
      have hC4:=hC3.step hgl hmB hS4 hg4
      have hI4:=OwG.blkW_grown hI3 hg4 (by simp only [ne_eq,Option.some.injEq];omega)
      clear hstr
      try go_wp2_with fail
      have hk4:(fun (W:World)=>B<W.heap.size) _:=hC4.bB.1.1
      refine hK.out _ _ hk4 (fun _=>?_)
      clear hK K
      try simp only [Act.put,SL]
      refine rd 7 (⟨some 33,.call {callee:=Callee.value (.func 65),args:=#[.tmp 32,.const (Value.int IntKind.i64 4)],argTypes:=#[94,2]},2,"l05_catalog.go:195",#[⟨6,.data⟩,⟨4,.chain⟩],none⟩) (fun K hK=>?_)
      go_simp
      go_at_call 65
      refine (HN.out 4 _ (by omega) hC4.src).mono ?_
      rintro e q5 ⟨v5,rfl,lo5,-,hi5,hS5,hg5⟩
      have ht5:v5<4:=hi5 (by omega)
      obtain ⟨tt,rfl⟩:∃j:Nat,v5=(j:Int):=⟨v5.toNat,by omega⟩
      have htt4:tt<4:=by omega
      have htt4i:((tt:Nat):Int)<4:=by omega
      have hC5:=hC4.step hgl hmB hS5 hg5
      have hI5:=OwG.blkW_grown hI4 hg5 (by simp only [ne_eq,Option.some.injEq];omega)
      clear hi5 lo5 ht5
      try go_wp2_with fail
      have hk5:(fun (W:World)=>B<W.heap.size) _:=hC5.bB.1.1
      refine hK.out _ _ hk5 (fun _=>?_)
      clear hK K
      try simp only [Act.put,SL]
      refine tk 8 (⟨some 34,.indexAddr 101 (.tmp 31) (.tmp 33),0,"l05_catalog.go:195",#[⟨5,.data⟩,⟨7,.data⟩],none⟩) ?_
      exact TAIL.out sb ib tt T q5 ⟨hC5,hI5,hTs,htt4⟩
    ·go_simp
     have hstr:Strs sb 2 100 k1:=⟨hP1.1.1,fun j hj=>by
      match j,hj with
      | 0,_=>exact ⟨_,hP1.1.2 0 (by simp),by decide⟩
      | 1,_=>exact ⟨_,hP1.1.2 1 (by simp),by decide⟩⟩
     go_at_call 61
     refine (pick_any ao len cap g sb 2 100 _ (by omega) (by omega) (by omega) hC1.src hstr).mono ?_
     rintro e q2 ⟨⟨T,rfl,hTs⟩,hS2,hg2⟩
     have hC2:=hC1.step hgl hmB hS2 hg2
     clear hstr
     try go_wp2_with fail
     have hk2:(fun (W:World)=>B<W.heap.size) _:=hC2.bB.1.1
     refine hK.out _ _ hk2 (fun _=>?_)
     clear hK K
     try simp only [Act.put,SL]
     refine wpAnyH_ready (rs:=[1,5,7]) (by kernel_rfl) (by simp) ?_
     refine AllReadyH.cons (o:=⟨some 27,.load 34 (.tmp 26),34,"l05_catalog.go:195",#[⟨0,.data⟩],none⟩) rfl (fun K hK=>?_) (AllReadyH.cons (o:=⟨some 31,.buildSlice 101 4 #[(0,.const (Value.int IntKind.i64 (-1))),(1,.const (Value.int IntKind.i64 0)),(2,.const (Value.int IntKind.i64 1000)),(3,.const (Value.int IntKind.i64 1000000000001))],101,"l05_catalog.go:195",#[],none⟩) rfl (fun K hK=>?_) (AllReadyH.cons (o:=⟨some 33,.call {callee:=Callee.value (.func 65),args:=#[.tmp 32,.const (Value.int IntKind.i64 4)],argTypes:=#[94,2]},2,"l05_catalog.go:195",#[⟨6,.data⟩,⟨4,.chain⟩],none⟩) rfl (fun K hK=>?_) AllReadyH.nil))
     ·have k1:q2.cell? ⟨B,1,none⟩=some (.slice (some ⟨mb+1,0,none⟩) 1 1):=hC2.bB.1.2 1 (by simp)
      have kl:=hC2.bB.1.1
      go_simp
      try go_wp2_with fail
      clear k1 kl
      have hk3:(fun (W:World)=>B<W.heap.size) _:=hC2.bB.1.1
      refine hK.out _ _ hk3 (fun _=>?_)
      clear hK K
      try simp only [Act.put,SL]
      refine wpAnyH_ready (rs:=[5,7]) (by kernel_rfl) (by simp) ?_
      refine AllReadyH.cons (o:=⟨some 31,.buildSlice 101 4 #[(0,.const (Value.int IntKind.i64 (-1))),(1,.const (Value.int IntKind.i64 0)),(2,.const (Value.int IntKind.i64 1000)),(3,.const (Value.int IntKind.i64 1000000000001))],101,"l05_catalog.go:195",#[],none⟩) rfl (fun K hK=>?_) (AllReadyH.cons (o:=⟨some 33,.call {callee:=Callee.value (.func 65),args:=#[.tmp 32,.const (Value.int IntKind.i64 4)],argTypes:=#[94,2]},2,"l05_catalog.go:195",#[⟨6,.data⟩,⟨4,.chain⟩],none⟩) rfl (fun K hK=>?_) AllReadyH.nil)
      ·go_simp
       try go_wp2_with fail
       have hb4:Below q2.heap.size q2 (q2.alloc (Obj.cells #[.int .i64 (-1),.int .i64 0,.int .i64 1000,.int .i64 1000000000001] 2)):=(Below.refl _ _).alloc (Nat.le_refl _) _
       have hC4:=hC2.below hb4
       have hI4:=DocR.BlkW.new q2 [.int .i64 (-1),.int .i64 0,.int .i64 1000,.int .i64 1000000000001] 2
       have hlib:B<q2.heap.size:=hC2.bB.1.1
       have hgib:g<q2.heap.size:=hC2.src.lt
       have hk4:(fun (W:World)=>B<W.heap.size) _:=hC4.bB.1.1
       refine hK.out _ _ hk4 (fun _=>?_)
       clear hK K
       try simp only [Act.put,SL]
       obtain ⟨ib,hibe⟩:∃z,z=q2.heap.size:=⟨_,rfl⟩
       obtain ⟨k4,hk4e⟩:∃z,z=q2.alloc (Obj.cells #[.int .i64 (-1),.int .i64 0,.int .i64 1000,.int .i64 1000000000001] 2):=⟨_,rfl⟩
       rw [←hibe] at hI4 hlib hgib ⊢
       rw [←hk4e] at hC4 hI4 hk4 ⊢
       clear hb4 hk4e hibe
       refine rd 7 (⟨some 33,.call {callee:=Callee.value (.func 65),args:=#[.tmp 32,.const (Value.int IntKind.i64 4)],argTypes:=#[94,2]},2,"l05_catalog.go:195",#[⟨6,.data⟩,⟨4,.chain⟩],none⟩) (fun K hK=>?_)
       go_simp
       go_at_call 65
       refine (HN.out 4 _ (by omega) hC4.src).mono ?_
       rintro e q5 ⟨v5,rfl,lo5,-,hi5,hS5,hg5⟩
       have ht5:v5<4:=hi5 (by omega)
       obtain ⟨tt,rfl⟩:∃j:Nat,v5=(j:Int):=⟨v5.toNat,by omega⟩
       have htt4:tt<4:=by omega
       have htt4i:((tt:Nat):Int)<4:=by omega
       have hC5:=hC4.step hgl hmB hS5 hg5
       have hI5:=OwG.blkW_grown hI4 hg5 (by simp only [ne_eq,Option.some.injEq];omega)
       clear hi5 lo5 ht5
       try go_wp2_with fail
       have hk5:(fun (W:World)=>B<W.heap.size) _:=hC5.bB.1.1
       refine hK.out _ _ hk5 (fun _=>?_)
       clear hK K
       try simp only [Act.put,SL]
       refine tk 8 (⟨some 34,.indexAddr 101 (.tmp 31) (.tmp 33),0,"l05_catalog.go:195",#[⟨5,.data⟩,⟨7,.data⟩],none⟩) ?_
       exact TAIL.out sb ib tt T q5 ⟨hC5,hI5,hTs,htt4⟩
      ·go_simp
       go_at_call 65
       refine (HN.out 4 _ (by omega) hC2.src).mono ?_
       rintro e q4 ⟨v4,rfl,lo4,-,hi4,hS4,hg4⟩
       have ht4:v4<4:=hi4 (by omega)
       obtain ⟨tt,rfl⟩:∃j:Nat,v4=(j:Int):=⟨v4.toNat,by omega⟩
       have htt4:tt<4:=by omega
       have htt4i:((tt:Nat):Int)<4:=by omega
       have hC4:=hC2.step hgl hmB hS4 hg4
       clear hi4 lo4 ht4
       try go_wp2_with fail
       have hk4:(fun (W:World)=>B<W.heap.size) _:=hC4.bB.1.1
       refine hK.out _ _ hk4 (fun _=>?_)
       clear hK K
       try simp only [Act.put,SL]
       refine rd 5 (⟨some 31,.buildSlice 101 4 #[(0,.const (Value.int IntKind.i64 (-1))),(1,.const (Value.int IntKind.i64 0)),(2,.const (Value.int IntKind.i64 1000)),(3,.const (Value.int IntKind.i64 1000000000001))],101,"l05_catalog.go:195",#[],none⟩) (fun K hK=>?_)
       go_simp
       try go_wp2_with fail
       have hb5:Below q4.heap.size q4 (q4.alloc (Obj.cells #[.int .i64 (-1),.int .i64 0,.int .i64 1000,.int .i64 1000000000001] 2)):=(Below.refl _ _).alloc (Nat.le_refl _) _
       have hC5:=hC4.below hb5
       have hI5:=DocR.BlkW.new q4 [.int .i64 (-1),.int .i64 0,.int .i64 1000,.int .i64 1000000000001] 2
       have hlib:B<q4.heap.size:=hC4.bB.1.1
       have hgib:g<q4.heap.size:=hC4.src.lt
       have hk5:(fun (W:World)=>B<W.heap.size) _:=hC5.bB.1.1
       refine hK.out _ _ hk5 (fun _=>?_)
       clear hK K
       try simp only [Act.put,SL]
       obtain ⟨ib,hibe⟩:∃z,z=q4.heap.size:=⟨_,rfl⟩
       obtain ⟨k5,hk5e⟩:∃z,z=q4.alloc (Obj.cells #[.int .i64 (-1),.int .i64 0,.int .i64 1000,.int .i64 1000000000001] 2):=⟨_,rfl⟩
       rw [←hibe] at hI5 hlib hgib ⊢
       rw [←hk5e] at hC5 hI5 hk5 ⊢
       clear hb5 hk5e hibe
       refine tk 8 (⟨some 34,.indexAddr 101 (.tmp 31) (.tmp 33),0,"l05_catalog.go:195",#[⟨5,.data⟩,⟨7,.data⟩],none⟩) ?_
       exact TAIL.out sb ib tt T k5 ⟨hC5,hI5,hTs,htt4⟩
     ·go_simp
      try go_wp2_with fail
      have hb3:Below q2.heap.size q2 (q2.alloc (Obj.cells #[.int .i64 (-1),.int .i64 0,.int .i64 1000,.int .i64 1000000000001] 2)):=(Below.refl _ _).alloc (Nat.le_refl _) _
      have hC3:=hC2.below hb3
      have hI3:=DocR.BlkW.new q2 [.int .i64 (-1),.int .i64 0,.int .i64 1000,.int .i64 1000000000001] 2
      have hlib:B<q2.heap.size:=hC2.bB.1.1
      have hgib:g<q2.heap.size:=hC2.src.lt
      have hk3:(fun (W:World)=>B<W.heap.size) _:=hC3.bB.1.1
      refine hK.out _ _ hk3 (fun _=>?_)
      clear hK K
      try simp only [Act.put,SL]
      obtain ⟨ib,hibe⟩:∃z,z=q2.heap.size:=⟨_,rfl⟩
      obtain ⟨k3,hk3e⟩:∃z,z=q2.alloc (Obj.cells #[.int .i64 (-1),.int .i64 0,.int .i64 1000,.int .i64 1000000000001] 2):=⟨_,rfl⟩
      rw [←hibe] at hI3 hlib hgib ⊢
      rw [←hk3e] at hC3 hI3 hk3 ⊢
      clear hb3 hk3e hibe
      refine wpAnyH_ready (rs:=[1,7]) (by kernel_rfl) (by simp) ?_
      refine AllReadyH.cons (o:=⟨some 27,.load 34 (.tmp 26),34,"l05_catalog.go:195",#[⟨0,.data⟩],none⟩) rfl (fun K hK=>?_) (AllReadyH.cons (o:=⟨some 33,.call {callee:=Callee.value (.func 65),args:=#[.tmp 32,.const (Value.int IntKind.i64 4)],argTypes:=#[94,2]},2,"l05_catalog.go:195",#[⟨6,.data⟩,⟨4,.chain⟩],none⟩) rfl (fun K hK=>?_) AllReadyH.nil)
      ·have k1:k3.cell? ⟨B,1,none⟩=some (.slice (some ⟨mb+1,0,none⟩) 1 1):=hC3.bB.1.2 1 (by simp)
       have kl:=hC3.bB.1.1
       go_simp
       try go_wp2_with fail
       clear k1 kl
       have hk4:(fun (W:World)=>B<W.heap.size) _:=hC3.bB.1.1
       refine hK.out _ _ hk4 (fun _=>?_)
       clear hK K
       try simp only [Act.put,SL]
       refine rd 7 (⟨some 33,.call {callee:=Callee.value (.func 65),args:=#[.tmp 32,.const (Value.int IntKind.i64 4)],argTypes:=#[94,2]},2,"l05_catalog.go:195",#[⟨6,.data⟩,⟨4,.chain⟩],none⟩) (fun K hK=>?_)
       go_simp
       go_at_call 65
       refine (HN.out 4 _ (by omega) hC3.src).mono ?_
       rintro e q5 ⟨v5,rfl,lo5,-,hi5,hS5,hg5⟩
       have ht5:v5<4:=hi5 (by omega)
       obtain ⟨tt,rfl⟩:∃j:Nat,v5=(j:Int):=⟨v5.toNat,by omega⟩
       have htt4:tt<4:=by omega
       have htt4i:((tt:Nat):Int)<4:=by omega
       have hC5:=hC3.step hgl hmB hS5 hg5
       have hI5:=OwG.blkW_grown hI3 hg5 (by simp only [ne_eq,Option.some.injEq];omega)
       clear hi5 lo5 ht5
       try go_wp2_with fail
       have hk5:(fun (W:World)=>B<W.heap.size) _:=hC5.bB.1.1
       refine hK.out _ _ hk5 (fun _=>?_)
       clear hK K
       try simp only [Act.put,SL]
       refine tk 8 (⟨some 34,.indexAddr 101 (.tmp 31) (.tmp 33),0,"l05_catalog.go:195",#[⟨5,.data⟩,⟨7,.data⟩],none⟩) ?_
       exact TAIL.out sb ib tt T q5 ⟨hC5,hI5,hTs,htt4⟩
      ·go_simp
       go_at_call 65
       refine (HN.out 4 _ (by omega) hC3.src).mono ?_
       rintro e q4 ⟨v4,rfl,lo4,-,hi4,hS4,hg4⟩
       have ht4:v4<4:=hi4 (by omega)
       obtain ⟨tt,rfl⟩:∃j:Nat,v4=(j:Int):=⟨v4.toNat,by omega⟩
       have htt4:tt<4:=by omega
       have htt4i:((tt:Nat):Int)<4:=by omega
       have hC4:=hC3.step hgl hmB hS4 hg4
       have hI4:=OwG.blkW_grown hI3 hg4 (by simp only [ne_eq,Option.some.injEq];omega)
       clear hi4 lo4 ht4
       try go_wp2_with fail
       have hk4:(fun (W:World)=>B<W.heap.size) _:=hC4.bB.1.1
       refine hK.out _ _ hk4 (fun _=>?_)
       clear hK K
       try simp only [Act.put,SL]
       refine tk 8 (⟨some 34,.indexAddr 101 (.tmp 31) (.tmp 33),0,"l05_catalog.go:195",#[⟨5,.data⟩,⟨7,.data⟩],none⟩) ?_
       refine wpAnyH_ready (rs:=[1,9]) (by kernel_rfl) (by simp) ?_
       refine AllReadyH.cons (o:=⟨some 27,.load 34 (.tmp 26),34,"l05_catalog.go:195",#[⟨0,.data⟩],none⟩) rfl (fun K hK=>?_) (AllReadyH.cons (o:=⟨some 35,.load 2 (.tmp 34),2,"l05_catalog.go:195",#[⟨8,.data⟩],none⟩) rfl (fun K hK=>?_) AllReadyH.nil)
       ·have k1:q4.cell? ⟨B,1,none⟩=some (.slice (some ⟨mb+1,0,none⟩) 1 1):=hC4.bB.1.2 1 (by simp)
        have kl:=hC4.bB.1.1
        go_simp
        try go_wp2_with fail
        clear k1 kl
        have hk5:(fun (W:World)=>B<W.heap.size) _:=hC4.bB.1.1
        refine hK.out _ _ hk5 (fun _=>?_)
        clear hK K
        try simp only [Act.put,SL]
        exact TAIL.out sb ib tt T q4 ⟨hC4,hI4,hTs,htt4⟩
       ·obtain ⟨Y,hY⟩:∃Y:Int,q4.cell? ⟨ib,tt,none⟩=some (.int .i64 Y):=by
         rcases (show tt=0∨tt=1∨tt=2∨tt=3 by omega) with rfl|rfl|rfl|rfl
         ·exact ⟨_,hI4.1.2 0 (by simp)⟩
         ·exact ⟨_,hI4.1.2 1 (by simp)⟩
         ·exact ⟨_,hI4.1.2 2 (by simp)⟩
         ·exact ⟨_,hI4.1.2 3 (by simp)⟩
        have hil:=hI4.1.1
        go_simp
        try go_wp2_with fail
        clear hY hil
        have hk5:(fun (W:World)=>B<W.heap.size) _:=hC4.bB.1.1
        refine hK.out _ _ hk5 (fun _=>?_)
        clear hK K
        try simp only [Act.put,SL]
        refine tk 10 (⟨some 36,.build 118 #[(0,.tmp 30),(1,.tmp 35)],118,"l05_catalog.go:195",#[⟨4,.data⟩,⟨9,.data⟩],none⟩) ?_
        refine wpAnyH_ready (rs:=[1,11]) (by kernel_rfl) (by simp) ?_
        refine AllReadyH.cons (o:=⟨some 27,.load 34 (.tmp 26),34,"l05_catalog.go:195",#[⟨0,.data⟩],none⟩) rfl (fun K hK=>?_) (AllReadyH.cons (o:=⟨some 37,.buildSlice 34 1 #[(0,.tmp 36)],34,"l05_catalog.go:195",#[⟨10,.data⟩],none⟩) rfl (fun K hK=>?_) AllReadyH.nil)
        ·have k1:q4.cell? ⟨B,1,none⟩=some (.slice (some ⟨mb+1,0,none⟩) 1 1):=hC4.bB.1.2 1 (by simp)
         have kl:=hC4.bB.1.1
         go_simp
         try go_wp2_with fail
         clear k1 kl
         have hk6:(fun (W:World)=>B<W.heap.size) _:=hC4.bB.1.1
         refine hK.out _ _ hk6 (fun _=>?_)
         clear hK K
         try simp only [Act.put,SL]
         refine rd 11 (⟨some 37,.buildSlice 34 1 #[(0,.tmp 36)],34,"l05_catalog.go:195",#[⟨10,.data⟩],none⟩) (fun K hK=>?_)
         go_simp
         try go_wp2_with fail
         have hb7:Below q4.heap.size q4 (q4.alloc (Obj.cells #[.string T,.int .i64 Y] 118)):=(Below.refl _ _).alloc (Nat.le_refl _) _
         have hC7:=hC4.below hb7
         have hP7:=DocR.BlkW.new q4 [.string T,.int .i64 Y] 118
         have hlnb:B<q4.heap.size:=hC4.bB.1.1
         have hgnb:g<q4.heap.size:=hC4.src.lt
         have hk7:(fun (W:World)=>B<W.heap.size) _:=hC7.bB.1.1
         refine hK.out _ _ hk7 (fun _=>?_)
         clear hK K
         try simp only [Act.put,SL]
         obtain ⟨nb,hnbe⟩:∃z,z=q4.heap.size:=⟨_,rfl⟩
         obtain ⟨k7,hk7e⟩:∃z,z=q4.alloc (Obj.cells #[.string T,.int .i64 Y] 118):=⟨_,rfl⟩
         rw [←hnbe] at hP7 hlnb hgnb ⊢
         rw [←hk7e] at hC7 hP7 hk7 ⊢
         clear hb7 hk7e hnbe
         refine rd 12 (⟨some 38,.call {callee:=Callee.builtin Builtin.append,args:=#[.tmp 27,.tmp 37],argTypes:=#[34,34]},34,"l05_catalog.go:195",#[⟨1,.data⟩,⟨11,.data⟩,⟨7,.chain⟩],none⟩) (fun K hK=>?_)
         have hold:∀b:Addr,(some ⟨mb+1,0,none⟩:Option Addr)=some b→∀j u,([.string ⟨#[97,110,110]⟩,.int .i64 3000]:List Value)[j]? = some u→k7.cell? (b.add j)=some u:=by
          intro b e j u hu
          cases e
          obtain ⟨_,h0|⟨b',o',e',hl',hc'⟩⟩:=hC7.crs
          ·cases h0
          ·cases e'
           have h2:=hc' 0 (by omega)
           rw [Addr.add_lit]
           match j,hu with
           | 0,hu=>simp at hu;subst hu;exact h2.1
           | 1,hu=>simp at hu;subst hu;exact h2.2
         have hnw:∀j u,([.string T,.int .i64 Y]:List Value)[j]? = some u→k7.cell? ((⟨nb,0,none⟩:Addr).add j)=some u:=by
          intro j u hu
          have hjl:=(List.getElem?_eq_some_iff.1 hu).1
          rw [Addr.add_lit,Nat.zero_add,hP7.1.2 j hjl]
          exact hu
         refine step_append_grows rfl _ _ 34 rfl 118 i0 (.agg #[.string ⟨#[]⟩,.int .i64 0]) 2 24 Tryz.underlying34 hi hz0 hz1 hz2 rfl gz2 (some ⟨mb+1,0,none⟩) 1 1 [.string ⟨#[97,110,110]⟩,.int .i64 3000] rfl (fun e=>by cases e) rfl hold ⟨nb,0,none⟩ 1 1 [.string T,.int .i64 Y] rfl rfl hnw (by intro u hu;simp at hu;rcases hu with rfl|rfl<;>rfl) gz3 gz4 gz5 ?_
         intro v' q8 hown hgrow
         have hb8:Below k7.heap.size k7 q8:=⟨hgrow.os,hgrow.tape,hgrow.output,hgrow.size,fun k hk=>hgrow.block k hk (by simp)⟩
         have hC8:=hC7.below hb8
         have hlW:B<k7.heap.size:=hC7.bB.1.1
         obtain ⟨go',gc,rfl,hmd⟩:=RowG.own_made (k:=2) (cells:=crC) (z:=Cr.zero) (xs:=[⟨⟨#[97,110,110]⟩,3000⟩,⟨T,Y⟩]) crC_len (by simpa [RowG.cellsAll,crC] using hown)
         try go_wp2_with fail
         clear hold hnw hgrow hb8
         have hk8:(fun (W:World)=>B<W.heap.size) _:=hC8.bB.1.1
         refine hK.out _ _ hk8 (fun _=>?_)
         clear hK K
         try simp only [Act.put,SL]
         refine tk 13 (⟨some 39,.fieldAddr 36 (.tmp 3) 1,0,"l05_catalog.go:195",#[⟨0,.phase⟩,⟨1,.phase⟩,⟨2,.phase⟩,⟨3,.phase⟩,⟨4,.phase⟩,⟨5,.phase⟩,⟨6,.phase⟩,⟨7,.phase⟩,⟨8,.phase⟩,⟨9,.phase⟩,⟨10,.phase⟩,⟨11,.phase⟩,⟨12,.phase⟩],none⟩) ?_
         refine rd 14 (⟨none,.store 34 (.tmp 39) (.tmp 38),0,"l05_catalog.go:195",#[⟨13,.data⟩,⟨12,.data⟩,⟨12,.chain⟩,⟨0,.phase⟩,⟨1,.phase⟩,⟨2,.phase⟩,⟨3,.phase⟩,⟨4,.phase⟩,⟨5,.phase⟩,⟨6,.phase⟩,⟨7,.phase⟩,⟨8,.phase⟩,⟨9,.phase⟩,⟨10,.phase⟩,⟨11,.phase⟩,⟨12,.phase⟩],none⟩) (fun K hK=>?_)
         have hnb:∀b o,go'=some ⟨b,o,none⟩→B<b∧some b≠some B:=fun b o e=>by
          rcases hmd.own with h0|⟨x,e',hx,_⟩
          ·cases h0
          ·rw [e] at e'
           cases e'
           exact ⟨by omega,by simp only [ne_eq,Option.some.injEq];omega⟩
         have k1:q8.cell? ⟨B,1,none⟩=some (.slice (some ⟨mb+1,0,none⟩) 1 1):=hC8.bB.1.2 1 (by simp)
         have z1:=hC8.bB.2 1 (by simp)
         have hml:=hC8.bB.1.1
         go_simp
         try go_wp2_with fail
         have hgr:=RowG.grown_set q8 B 1 (.slice go' 2 gc)
         have hmp:=hC8.mes.kept hgr (by omega) (by omega)
         have hcr:Crs go' 2 [⟨⟨#[97,110,110]⟩,3000⟩,⟨T,Y⟩] (q8.setCell ⟨B,1,none⟩ (.slice go' 2 gc)):=crs_of (hmd.rws.grown hgr (.inr (fun b o e=>(hnb b o e).2)))
         have hbB:=hC8.bB.set 1 (.slice go' 2 gc) (by simp)
         simp only [List.set_cons_zero,List.set_cons_succ] at hbB
         have hbR:=OwG.blkW_grown hC8.bR hgr (by simp only [ne_eq,Option.some.injEq];omega)
         have hsr:=hC8.src.kept hgr (fun k e=>by cases e;omega)
         have hgw:=hC8.grew.andThen hgr (fun k e=>by cases e;exact .inl (by omega))
         clear k1 z1
         have hk9:(fun (W:World)=>B<W.heap.size) _:=hbB.1.1
         refine hK.out _ _ hk9 (fun _=>?_)
         clear hK K
         try simp only [Act.put,SL]
         refine wpAnyH_done (by kernel_rfl) ?_ _
         generalize (q8.setCell ⟨B,1,none⟩ (.slice go' 2 gc))=WS at *
         have HF:=H_ (show CaOut ao len cap g w (.returned (.agg #[.slice (some ⟨mb,0,none⟩) plainM.length 4,.slice go' ([⟨⟨#[97,110,110]⟩,3000⟩,⟨T,Y⟩]:List Cr).length gc])) (StR.stL WS w.heap.size 0 [.slice (some ⟨mb,0,none⟩) 4 4,.slice go' 2 gc]) from by
          have hr:=StR.stL_grown w.heap.size [.slice (some ⟨mb,0,none⟩) 4 4,.slice go' 2 gc] 0 WS
          exact CS.fin (c:=⟨plainM,[⟨⟨#[97,110,110]⟩,3000⟩,⟨T,Y⟩]⟩) hsr hgw hgl (hmp.kept hr (by omega) (by omega)).mes (crs_keptG hcr hr (fun b o e=>by have:=(hnb b o e).1;omega)) (small_of hmp (by omega) (by simp) (by intro c hc;simp at hc;rcases hc with rfl|rfl;decide;exact hTs)) (fun W' hsz hk=>⟨((hmp.kept hr (by omega) (by omega)).kp (fun b h=>Nat.le_of_lt h.1) (by omega) hsz hk).mes,crs_kp (crs_keptG hcr hr (fun b o e=>by have:=(hnb b o e).1;omega)) hsz (fun b o e hl=>hk b (by have:=(hnb b o e).1;omega) hl)⟩))
         simp only [StR.stL,Nat.zero_add,Nat.reduceAdd] at HF
         have b0:WS.cell? ⟨B,0,none⟩=some (.slice (some ⟨mb,0,none⟩) 4 4):=hbB.1.2 0 (by simp)
         have b1:WS.cell? ⟨B,1,none⟩=some (.slice go' 2 gc):=hbB.1.2 1 (by simp)
         have bl:=hbB.1.1
         have r0:WS.cell? ⟨w.heap.size,0,none⟩=some (.slice none 0 0):=hbR.1.2 0 (by simp)
         have r1:WS.cell? ⟨w.heap.size,1,none⟩=some (.slice none 0 0):=hbR.1.2 1 (by simp)
         have rl:=hbR.1.1
         have f0:=hbR.2 0 (by simp)
         have f1:=hbR.2 1 (by simp)
         have hne:¬B=w.heap.size:=by omega
         go_wp2_with fail
         refine bodyPost_ret (v:=.agg #[.slice (some ⟨mb,0,none⟩) 4 4,.slice go' 2 gc]) (by simp [results,Tryz.results60,go_sem,r0,r1]) rfl HF.out
        ·go_simp
         try go_wp2_with fail
         have hb6:Below q4.heap.size q4 (q4.alloc (Obj.cells #[.string T,.int .i64 Y] 118)):=(Below.refl _ _).alloc (Nat.le_refl _) _
         have hC6:=hC4.below hb6
         have hP6:=DocR.BlkW.new q4 [.string T,.int .i64 Y] 118
         have hlnb:B<q4.heap.size:=hC4.bB.1.1
         have hgnb:g<q4.heap.size:=hC4.src.lt
         have hk6:(fun (W:World)=>B<W.heap.size) _:=hC6.bB.1.1
         refine hK.out _ _ hk6 (fun _=>?_)
         clear hK K
         try simp only [Act.put,SL]
         obtain ⟨nb,hnbe⟩:∃z,z=q4.heap.size:=⟨_,rfl⟩
         obtain ⟨k6,hk6e⟩:∃z,z=q4.alloc (Obj.cells #[.string T,.int .i64 Y] 118):=⟨_,rfl⟩
         rw [←hnbe] at hP6 hlnb hgnb ⊢
         rw [←hk6e] at hC6 hP6 hk6 ⊢
         clear hb6 hk6e hnbe
         refine rd 1 (⟨some 27,.load 34 (.tmp 26),34,"l05_catalog.go:195",#[⟨0,.data⟩],none⟩) (fun K hK=>?_)
         have k1:k6.cell? ⟨B,1,none⟩=some (.slice (some ⟨mb+1,0,none⟩) 1 1):=hC6.bB.1.2 1 (by simp)
         have kl:=hC6.bB.1.1
         go_simp
         try go_wp2_with fail
         clear k1 kl
         have hk7:(fun (W:World)=>B<W.heap.size) _:=hC6.bB.1.1
         refine hK.out _ _ hk7 (fun _=>?_)
         clear hK K
         try simp only [Act.put,SL]
         refine rd 12 (⟨some 38,.call {callee:=Callee.builtin Builtin.append,args:=#[.tmp 27,.tmp 37],argTypes:=#[34,34]},34,"l05_catalog.go:195",#[⟨1,.data⟩,⟨11,.data⟩,⟨7,.chain⟩],none⟩) (fun K hK=>?_)
         have hold:∀b:Addr,(some ⟨mb+1,0,none⟩:Option Addr)=some b→∀j u,([.string ⟨#[97,110,110]⟩,.int .i64 3000]:List Value)[j]? = some u→k6.cell? (b.add j)=some u:=by
          intro b e j u hu
          cases e
          obtain ⟨_,h0|⟨b',o',e',hl',hc'⟩⟩:=hC6.crs
          ·cases h0
          ·cases e'
           have h2:=hc' 0 (by omega)
           rw [Addr.add_lit]
           match j,hu with
           | 0,hu=>simp at hu;subst hu;exact h2.1
           | 1,hu=>simp at hu;subst hu;exact h2.2
         have hnw:∀j u,([.string T,.int .i64 Y]:List Value)[j]? = some u→k6.cell? ((⟨nb,0,none⟩:Addr).add j)=some u:=by
          intro j u hu
          have hjl:=(List.getElem?_eq_some_iff.1 hu).1
          rw [Addr.add_lit,Nat.zero_add,hP6.1.2 j hjl]
          exact hu
         refine step_append_grows rfl _ _ 34 rfl 118 i0 (.agg #[.string ⟨#[]⟩,.int .i64 0]) 2 24 Tryz.underlying34 hi hz0 hz1 hz2 rfl gz2 (some ⟨mb+1,0,none⟩) 1 1 [.string ⟨#[97,110,110]⟩,.int .i64 3000] rfl (fun e=>by cases e) rfl hold ⟨nb,0,none⟩ 1 1 [.string T,.int .i64 Y] rfl rfl hnw (by intro u hu;simp at hu;rcases hu with rfl|rfl<;>rfl) gz3 gz4 gz5 ?_
         intro v' q8 hown hgrow
         have hb8:Below k6.heap.size k6 q8:=⟨hgrow.os,hgrow.tape,hgrow.output,hgrow.size,fun k hk=>hgrow.block k hk (by simp)⟩
         have hC8:=hC6.below hb8
         have hlW:B<k6.heap.size:=hC6.bB.1.1
         obtain ⟨go',gc,rfl,hmd⟩:=RowG.own_made (k:=2) (cells:=crC) (z:=Cr.zero) (xs:=[⟨⟨#[97,110,110]⟩,3000⟩,⟨T,Y⟩]) crC_len (by simpa [RowG.cellsAll,crC] using hown)
         try go_wp2_with fail
         clear hold hnw hgrow hb8
         have hk8:(fun (W:World)=>B<W.heap.size) _:=hC8.bB.1.1
         refine hK.out _ _ hk8 (fun _=>?_)
         clear hK K
         try simp only [Act.put,SL]
         refine tk 13 (⟨some 39,.fieldAddr 36 (.tmp 3) 1,0,"l05_catalog.go:195",#[⟨0,.phase⟩,⟨1,.phase⟩,⟨2,.phase⟩,⟨3,.phase⟩,⟨4,.phase⟩,⟨5,.phase⟩,⟨6,.phase⟩,⟨7,.phase⟩,⟨8,.phase⟩,⟨9,.phase⟩,⟨10,.phase⟩,⟨11,.phase⟩,⟨12,.phase⟩],none⟩) ?_
         refine rd 14 (⟨none,.store 34 (.tmp 39) (.tmp 38),0,"l05_catalog.go:195",#[⟨13,.data⟩,⟨12,.data⟩,⟨12,.chain⟩,⟨0,.phase⟩,⟨1,.phase⟩,⟨2,.phase⟩,⟨3,.phase⟩,⟨4,.phase⟩,⟨5,.phase⟩,⟨6,.phase⟩,⟨7,.phase⟩,⟨8,.phase⟩,⟨9,.phase⟩,⟨10,.phase⟩,⟨11,.phase⟩,⟨12,.phase⟩],none⟩) (fun K hK=>?_)
         have hnb:∀b o,go'=some ⟨b,o,none⟩→B<b∧some b≠some B:=fun b o e=>by
          rcases hmd.own with h0|⟨x,e',hx,_⟩
          ·cases h0
          ·rw [e] at e'
           cases e'
           exact ⟨by omega,by simp only [ne_eq,Option.some.injEq];omega⟩
         have k1:q8.cell? ⟨B,1,none⟩=some (.slice (some ⟨mb+1,0,none⟩) 1 1):=hC8.bB.1.2 1 (by simp)
         have z1:=hC8.bB.2 1 (by simp)
         have hml:=hC8.bB.1.1
         go_simp
         try go_wp2_with fail
         have hgr:=RowG.grown_set q8 B 1 (.slice go' 2 gc)
         have hmp:=hC8.mes.kept hgr (by omega) (by omega)
         have hcr:Crs go' 2 [⟨⟨#[97,110,110]⟩,3000⟩,⟨T,Y⟩] (q8.setCell ⟨B,1,none⟩ (.slice go' 2 gc)):=crs_of (hmd.rws.grown hgr (.inr (fun b o e=>(hnb b o e).2)))
         have hbB:=hC8.bB.set 1 (.slice go' 2 gc) (by simp)
         simp only [List.set_cons_zero,List.set_cons_succ] at hbB
         have hbR:=OwG.blkW_grown hC8.bR hgr (by simp only [ne_eq,Option.some.injEq];omega)
         have hsr:=hC8.src.kept hgr (fun k e=>by cases e;omega)
         have hgw:=hC8.grew.andThen hgr (fun k e=>by cases e;exact .inl (by omega))
         clear k1 z1
         have hk9:(fun (W:World)=>B<W.heap.size) _:=hbB.1.1
         refine hK.out _ _ hk9 (fun _=>?_)
         clear hK K
         try simp only [Act.put,SL]
         refine wpAnyH_done (by kernel_rfl) ?_ _
         generalize (q8.setCell ⟨B,1,none⟩ (.slice go' 2 gc))=WS at *
         have HF:=H_ (show CaOut ao len cap g w (.returned (.agg #[.slice (some ⟨mb,0,none⟩) plainM.length 4,.slice go' ([⟨⟨#[97,110,110]⟩,3000⟩,⟨T,Y⟩]:List Cr).length gc])) (StR.stL WS w.heap.size 0 [.slice (some ⟨mb,0,none⟩) 4 4,.slice go' 2 gc]) from by
          have hr:=StR.stL_grown w.heap.size [.slice (some ⟨mb,0,none⟩) 4 4,.slice go' 2 gc] 0 WS
          exact CS.fin (c:=⟨plainM,[⟨⟨#[97,110,110]⟩,3000⟩,⟨T,Y⟩]⟩) hsr hgw hgl (hmp.kept hr (by omega) (by omega)).mes (crs_keptG hcr hr (fun b o e=>by have:=(hnb b o e).1;omega)) (small_of hmp (by omega) (by simp) (by intro c hc;simp at hc;rcases hc with rfl|rfl;decide;exact hTs)) (fun W' hsz hk=>⟨((hmp.kept hr (by omega) (by omega)).kp (fun b h=>Nat.le_of_lt h.1) (by omega) hsz hk).mes,crs_kp (crs_keptG hcr hr (fun b o e=>by have:=(hnb b o e).1;omega)) hsz (fun b o e hl=>hk b (by have:=(hnb b o e).1;omega) hl)⟩))
         simp only [StR.stL,Nat.zero_add,Nat.reduceAdd] at HF
         have b0:WS.cell? ⟨B,0,none⟩=some (.slice (some ⟨mb,0,none⟩) 4 4):=hbB.1.2 0 (by simp)
         have b1:WS.cell? ⟨B,1,none⟩=some (.slice go' 2 gc):=hbB.1.2 1 (by simp)
         have bl:=hbB.1.1
         have r0:WS.cell? ⟨w.heap.size,0,none⟩=some (.slice none 0 0):=hbR.1.2 0 (by simp)
         have r1:WS.cell? ⟨w.heap.size,1,none⟩=some (.slice none 0 0):=hbR.1.2 1 (by simp)
         have rl:=hbR.1.1
         have f0:=hbR.2 0 (by simp)
         have f1:=hbR.2 1 (by simp)
         have hne:¬B=w.heap.size:=by omega
         go_wp2_with fail
         refine bodyPost_ret (v:=.agg #[.slice (some ⟨mb,0,none⟩) 4 4,.slice go' 2 gc]) (by simp [results,Tryz.results60,go_sem,r0,r1]) rfl HF.out
     ·go_simp
      go_at_call 65
      refine (HN.out 4 _ (by omega) hC2.src).mono ?_
      rintro e q3 ⟨v3,rfl,lo3,-,hi3,hS3,hg3⟩
      have ht3:v3<4:=hi3 (by omega)
      obtain ⟨tt,rfl⟩:∃j:Nat,v3=(j:Int):=⟨v3.toNat,by omega⟩
      have htt4:tt<4:=by omega
      have htt4i:((tt:Nat):Int)<4:=by omega
      have hC3:=hC2.step hgl hmB hS3 hg3
      clear hi3 lo3 ht3
      try go_wp2_with fail
      have hk3:(fun (W:World)=>B<W.heap.size) _:=hC3.bB.1.1
      refine hK.out _ _ hk3 (fun _=>?_)
      clear hK K
      try simp only [Act.put,SL]
      refine wpAnyH_ready (rs:=[1,5]) (by kernel_rfl) (by simp) ?_
      refine AllReadyH.cons (o:=⟨some 27,.load 34 (.tmp 26),34,"l05_catalog.go:195",#[⟨0,.data⟩],none⟩) rfl (fun K hK=>?_) (AllReadyH.cons (o:=⟨some 31,.buildSlice 101 4 #[(0,.const (Value.int IntKind.i64 (-1))),(1,.const (Value.int IntKind.i64 0)),(2,.const (Value.int IntKind.i64 1000)),(3,.const (Value.int IntKind.i64 1000000000001))],101,"l05_catalog.go:195",#[],none⟩) rfl (fun K hK=>?_) AllReadyH.nil)
      ·have k1:q3.cell? ⟨B,1,none⟩=some (.slice (some ⟨mb+1,0,none⟩) 1 1):=hC3.bB.1.2 1 (by simp)
       have kl:=hC3.bB.1.1
       go_simp
       try go_wp2_with fail
       clear k1 kl
       have hk4:(fun (W:World)=>B<W.heap.size) _:=hC3.bB.1.1
       refine hK.out _ _ hk4 (fun _=>?_)
       clear hK K
       try simp only [Act.put,SL]
       refine rd 5 (⟨some 31,.buildSlice 101 4 #[(0,.const (Value.int IntKind.i64 (-1))),(1,.const (Value.int IntKind.i64 0)),(2,.const (Value.int IntKind.i64 1000)),(3,.const (Value.int IntKind.i64 1000000000001))],101,"l05_catalog.go:195",#[],none⟩) (fun K hK=>?_)
       go_simp
       try go_wp2_with fail
       have hb5:Below q3.heap.size q3 (q3.alloc (Obj.cells #[.int .i64 (-1),.int .i64 0,.int .i64 1000,.int .i64 1000000000001] 2)):=(Below.refl _ _).alloc (Nat.le_refl _) _
       have hC5:=hC3.below hb5
       have hI5:=DocR.BlkW.new q3 [.int .i64 (-1),.int .i64 0,.int .i64 1000,.int .i64 1000000000001] 2
       have hlib:B<q3.heap.size:=hC3.bB.1.1
       have hgib:g<q3.heap.size:=hC3.src.lt
       have hk5:(fun (W:World)=>B<W.heap.size) _:=hC5.bB.1.1
       refine hK.out _ _ hk5 (fun _=>?_)
       clear hK K
       try simp only [Act.put,SL]
       obtain ⟨ib,hibe⟩:∃z,z=q3.heap.size:=⟨_,rfl⟩
       obtain ⟨k5,hk5e⟩:∃z,z=q3.alloc (Obj.cells #[.int .i64 (-1),.int .i64 0,.int .i64 1000,.int .i64 1000000000001] 2):=⟨_,rfl⟩
       rw [←hibe] at hI5 hlib hgib ⊢
       rw [←hk5e] at hC5 hI5 hk5 ⊢
       clear hb5 hk5e hibe
       refine tk 8 (⟨some 34,.indexAddr 101 (.tmp 31) (.tmp 33),0,"l05_catalog.go:195",#[⟨5,.data⟩,⟨7,.data⟩],none⟩) ?_
       exact TAIL.out sb ib tt T k5 ⟨hC5,hI5,hTs,htt4⟩
      ·go_simp
       try go_wp2_with fail
       have hb4:Below q3.heap.size q3 (q3.alloc (Obj.cells #[.int .i64 (-1),.int .i64 0,.int .i64 1000,.int .i64 1000000000001] 2)):=(Below.refl _ _).alloc (Nat.le_refl _) _
       have hC4:=hC3.below hb4
       have hI4:=DocR.BlkW.new q3 [.int .i64 (-1),.int .i64 0,.int .i64 1000,.int .i64 1000000000001] 2
       have hlib:B<q3.heap.size:=hC3.bB.1.1
       have hgib:g<q3.heap.size:=hC3.src.lt
       have hk4:(fun (W:World)=>B<W.heap.size) _:=hC4.bB.1.1
       refine hK.out _ _ hk4 (fun _=>?_)
       clear hK K
       try simp only [Act.put,SL]
       obtain ⟨ib,hibe⟩:∃z,z=q3.heap.size:=⟨_,rfl⟩
       obtain ⟨k4,hk4e⟩:∃z,z=q3.alloc (Obj.cells #[.int .i64 (-1),.int .i64 0,.int .i64 1000,.int .i64 1000000000001] 2):=⟨_,rfl⟩
       rw [←hibe] at hI4 hlib hgib ⊢
       rw [←hk4e] at hC4 hI4 hk4 ⊢
       clear hb4 hk4e hibe
       refine tk 8 (⟨some 34,.indexAddr 101 (.tmp 31) (.tmp 33),0,"l05_catalog.go:195",#[⟨5,.data⟩,⟨7,.data⟩],none⟩) ?_
       refine wpAnyH_ready (rs:=[1,9]) (by kernel_rfl) (by simp) ?_
       refine AllReadyH.cons (o:=⟨some 27,.load 34 (.tmp 26),34,"l05_catalog.go:195",#[⟨0,.data⟩],none⟩) rfl (fun K hK=>?_) (AllReadyH.cons (o:=⟨some 35,.load 2 (.tmp 34),2,"l05_catalog.go:195",#[⟨8,.data⟩],none⟩) rfl (fun K hK=>?_) AllReadyH.nil)
       ·have k1:k4.cell? ⟨B,1,none⟩=some (.slice (some ⟨mb+1,0,none⟩) 1 1):=hC4.bB.1.2 1 (by simp)
        have kl:=hC4.bB.1.1
        go_simp
        try go_wp2_with fail
        clear k1 kl
        have hk5:(fun (W:World)=>B<W.heap.size) _:=hC4.bB.1.1
        refine hK.out _ _ hk5 (fun _=>?_)
        clear hK K
        try simp only [Act.put,SL]
        exact TAIL.out sb ib tt T k4 ⟨hC4,hI4,hTs,htt4⟩
       ·obtain ⟨Y,hY⟩:∃Y:Int,k4.cell? ⟨ib,tt,none⟩=some (.int .i64 Y):=by
         rcases (show tt=0∨tt=1∨tt=2∨tt=3 by omega) with rfl|rfl|rfl|rfl
         ·exact ⟨_,hI4.1.2 0 (by simp)⟩
         ·exact ⟨_,hI4.1.2 1 (by simp)⟩
         ·exact ⟨_,hI4.1.2 2 (by simp)⟩
         ·exact ⟨_,hI4.1.2 3 (by simp)⟩
        have hil:=hI4.1.1
        go_simp
        try go_wp2_with fail
        clear hY hil
        have hk5:(fun (W:World)=>B<W.heap.size) _:=hC4.bB.1.1
        refine hK.out _ _ hk5 (fun _=>?_)
        clear hK K
        try simp only [Act.put,SL]
        refine tk 10 (⟨some 36,.build 118 #[(0,.tmp 30),(1,.tmp 35)],118,"l05_catalog.go:195",#[⟨4,.data⟩,⟨9,.data⟩],none⟩) ?_
        refine wpAnyH_ready (rs:=[1,11]) (by kernel_rfl) (by simp) ?_
        refine AllReadyH.cons (o:=⟨some 27,.load 34 (.tmp 26),34,"l05_catalog.go:195",#[⟨0,.data⟩],none⟩) rfl (fun K hK=>?_) (AllReadyH.cons (o:=⟨some 37,.buildSlice 34 1 #[(0,.tmp 36)],34,"l05_catalog.go:195",#[⟨10,.data⟩],none⟩) rfl (fun K hK=>?_) AllReadyH.nil)
        ·have k1:k4.cell? ⟨B,1,none⟩=some (.slice (some ⟨mb+1,0,none⟩) 1 1):=hC4.bB.1.2 1 (by simp)
         have kl:=hC4.bB.1.1
         go_simp
         try go_wp2_with fail
         clear k1 kl
         have hk6:(fun (W:World)=>B<W.heap.size) _:=hC4.bB.1.1
         refine hK.out _ _ hk6 (fun _=>?_)
         clear hK K
         try simp only [Act.put,SL]
         refine rd 11 (⟨some 37,.buildSlice 34 1 #[(0,.tmp 36)],34,"l05_catalog.go:195",#[⟨10,.data⟩],none⟩) (fun K hK=>?_)
         go_simp
         try go_wp2_with fail
         have hb7:Below k4.heap.size k4 (k4.alloc (Obj.cells #[.string T,.int .i64 Y] 118)):=(Below.refl _ _).alloc (Nat.le_refl _) _
         have hC7:=hC4.below hb7
         have hP7:=DocR.BlkW.new k4 [.string T,.int .i64 Y] 118
         have hlnb:B<k4.heap.size:=hC4.bB.1.1
         have hgnb:g<k4.heap.size:=hC4.src.lt
         have hk7:(fun (W:World)=>B<W.heap.size) _:=hC7.bB.1.1
         refine hK.out _ _ hk7 (fun _=>?_)
         clear hK K
         try simp only [Act.put,SL]
         obtain ⟨nb,hnbe⟩:∃z,z=k4.heap.size:=⟨_,rfl⟩
         obtain ⟨k7,hk7e⟩:∃z,z=k4.alloc (Obj.cells #[.string T,.int .i64 Y] 118):=⟨_,rfl⟩
         rw [←hnbe] at hP7 hlnb hgnb ⊢
         rw [←hk7e] at hC7 hP7 hk7 ⊢
         clear hb7 hk7e hnbe
         refine rd 12 (⟨some 38,.call {callee:=Callee.builtin Builtin.append,args:=#[.tmp 27,.tmp 37],argTypes:=#[34,34]},34,"l05_catalog.go:195",#[⟨1,.data⟩,⟨11,.data⟩,⟨7,.chain⟩],none⟩) (fun K hK=>?_)
         have hold:∀b:Addr,(some ⟨mb+1,0,none⟩:Option Addr)=some b→∀j u,([.string ⟨#[97,110,110]⟩,.int .i64 3000]:List Value)[j]? = some u→k7.cell? (b.add j)=some u:=by
          intro b e j u hu
          cases e
          obtain ⟨_,h0|⟨b',o',e',hl',hc'⟩⟩:=hC7.crs
          ·cases h0
          ·cases e'
           have h2:=hc' 0 (by omega)
           rw [Addr.add_lit]
           match j,hu with
           | 0,hu=>simp at hu;subst hu;exact h2.1
           | 1,hu=>simp at hu;subst hu;exact h2.2
         have hnw:∀j u,([.string T,.int .i64 Y]:List Value)[j]? = some u→k7.cell? ((⟨nb,0,none⟩:Addr).add j)=some u:=by
          intro j u hu
          have hjl:=(List.getElem?_eq_some_iff.1 hu).1
          rw [Addr.add_lit,Nat.zero_add,hP7.1.2 j hjl]
          exact hu
         refine step_append_grows rfl _ _ 34 rfl 118 i0 (.agg #[.string ⟨#[]⟩,.int .i64 0]) 2 24 Tryz.underlying34 hi hz0 hz1 hz2 rfl gz2 (some ⟨mb+1,0,none⟩) 1 1 [.string ⟨#[97,110,110]⟩,.int .i64 3000] rfl (fun e=>by cases e) rfl hold ⟨nb,0,none⟩ 1 1 [.string T,.int .i64 Y] rfl rfl hnw (by intro u hu;simp at hu;rcases hu with rfl|rfl<;>rfl) gz3 gz4 gz5 ?_
         intro v' q8 hown hgrow
         have hb8:Below k7.heap.size k7 q8:=⟨hgrow.os,hgrow.tape,hgrow.output,hgrow.size,fun k hk=>hgrow.block k hk (by simp)⟩
         have hC8:=hC7.below hb8
         have hlW:B<k7.heap.size:=hC7.bB.1.1
         obtain ⟨go',gc,rfl,hmd⟩:=RowG.own_made (k:=2) (cells:=crC) (z:=Cr.zero) (xs:=[⟨⟨#[97,110,110]⟩,3000⟩,⟨T,Y⟩]) crC_len (by simpa [RowG.cellsAll,crC] using hown)
         try go_wp2_with fail
         clear hold hnw hgrow hb8
         have hk8:(fun (W:World)=>B<W.heap.size) _:=hC8.bB.1.1
         refine hK.out _ _ hk8 (fun _=>?_)
         clear hK K
         try simp only [Act.put,SL]
         refine tk 13 (⟨some 39,.fieldAddr 36 (.tmp 3) 1,0,"l05_catalog.go:195",#[⟨0,.phase⟩,⟨1,.phase⟩,⟨2,.phase⟩,⟨3,.phase⟩,⟨4,.phase⟩,⟨5,.phase⟩,⟨6,.phase⟩,⟨7,.phase⟩,⟨8,.phase⟩,⟨9,.phase⟩,⟨10,.phase⟩,⟨11,.phase⟩,⟨12,.phase⟩],none⟩) ?_
         refine rd 14 (⟨none,.store 34 (.tmp 39) (.tmp 38),0,"l05_catalog.go:195",#[⟨13,.data⟩,⟨12,.data⟩,⟨12,.chain⟩,⟨0,.phase⟩,⟨1,.phase⟩,⟨2,.phase⟩,⟨3,.phase⟩,⟨4,.phase⟩,⟨5,.phase⟩,⟨6,.phase⟩,⟨7,.phase⟩,⟨8,.phase⟩,⟨9,.phase⟩,⟨10,.phase⟩,⟨11,.phase⟩,⟨12,.phase⟩],none⟩) (fun K hK=>?_)
         have hnb:∀b o,go'=some ⟨b,o,none⟩→B<b∧some b≠some B:=fun b o e=>by
          rcases hmd.own with h0|⟨x,e',hx,_⟩
          ·cases h0
          ·rw [e] at e'
           cases e'
           exact ⟨by omega,by simp only [ne_eq,Option.some.injEq];omega⟩
         have k1:q8.cell? ⟨B,1,none⟩=some (.slice (some ⟨mb+1,0,none⟩) 1 1):=hC8.bB.1.2 1 (by simp)
         have z1:=hC8.bB.2 1 (by simp)
         have hml:=hC8.bB.1.1
         go_simp
         try go_wp2_with fail
         have hgr:=RowG.grown_set q8 B 1 (.slice go' 2 gc)
         have hmp:=hC8.mes.kept hgr (by omega) (by omega)
         have hcr:Crs go' 2 [⟨⟨#[97,110,110]⟩,3000⟩,⟨T,Y⟩] (q8.setCell ⟨B,1,none⟩ (.slice go' 2 gc)):=crs_of (hmd.rws.grown hgr (.inr (fun b o e=>(hnb b o e).2)))
         have hbB:=hC8.bB.set 1 (.slice go' 2 gc) (by simp)
         simp only [List.set_cons_zero,List.set_cons_succ] at hbB
         have hbR:=OwG.blkW_grown hC8.bR hgr (by simp only [ne_eq,Option.some.injEq];omega)
         have hsr:=hC8.src.kept hgr (fun k e=>by cases e;omega)
         have hgw:=hC8.grew.andThen hgr (fun k e=>by cases e;exact .inl (by omega))
         clear k1 z1
         have hk9:(fun (W:World)=>B<W.heap.size) _:=hbB.1.1
         refine hK.out _ _ hk9 (fun _=>?_)
         clear hK K
         try simp only [Act.put,SL]
         refine wpAnyH_done (by kernel_rfl) ?_ _
         generalize (q8.setCell ⟨B,1,none⟩ (.slice go' 2 gc))=WS at *
         have HF:=H_ (show CaOut ao len cap g w (.returned (.agg #[.slice (some ⟨mb,0,none⟩) plainM.length 4,.slice go' ([⟨⟨#[97,110,110]⟩,3000⟩,⟨T,Y⟩]:List Cr).length gc])) (StR.stL WS w.heap.size 0 [.slice (some ⟨mb,0,none⟩) 4 4,.slice go' 2 gc]) from by
          have hr:=StR.stL_grown w.heap.size [.slice (some ⟨mb,0,none⟩) 4 4,.slice go' 2 gc] 0 WS
          exact CS.fin (c:=⟨plainM,[⟨⟨#[97,110,110]⟩,3000⟩,⟨T,Y⟩]⟩) hsr hgw hgl (hmp.kept hr (by omega) (by omega)).mes (crs_keptG hcr hr (fun b o e=>by have:=(hnb b o e).1;omega)) (small_of hmp (by omega) (by simp) (by intro c hc;simp at hc;rcases hc with rfl|rfl;decide;exact hTs)) (fun W' hsz hk=>⟨((hmp.kept hr (by omega) (by omega)).kp (fun b h=>Nat.le_of_lt h.1) (by omega) hsz hk).mes,crs_kp (crs_keptG hcr hr (fun b o e=>by have:=(hnb b o e).1;omega)) hsz (fun b o e hl=>hk b (by have:=(hnb b o e).1;omega) hl)⟩))
         simp only [StR.stL,Nat.zero_add,Nat.reduceAdd] at HF
         have b0:WS.cell? ⟨B,0,none⟩=some (.slice (some ⟨mb,0,none⟩) 4 4):=hbB.1.2 0 (by simp)
         have b1:WS.cell? ⟨B,1,none⟩=some (.slice go' 2 gc):=hbB.1.2 1 (by simp)
         have bl:=hbB.1.1
         have r0:WS.cell? ⟨w.heap.size,0,none⟩=some (.slice none 0 0):=hbR.1.2 0 (by simp)
         have r1:WS.cell? ⟨w.heap.size,1,none⟩=some (.slice none 0 0):=hbR.1.2 1 (by simp)
         have rl:=hbR.1.1
         have f0:=hbR.2 0 (by simp)
         have f1:=hbR.2 1 (by simp)
         have hne:¬B=w.heap.size:=by omega
         go_wp2_with fail
         refine bodyPost_ret (v:=.agg #[.slice (some ⟨mb,0,none⟩) 4 4,.slice go' 2 gc]) (by simp [results,Tryz.results60,go_sem,r0,r1]) rfl HF.out
        ·go_simp
         try go_wp2_with fail
         have hb6:Below k4.heap.size k4 (k4.alloc (Obj.cells #[.string T,.int .i64 Y] 118)):=(Below.refl _ _).alloc (Nat.le_refl _) _
         have hC6:=hC4.below hb6
         have hP6:=DocR.BlkW.new k4 [.string T,.int .i64 Y] 118
         have hlnb:B<k4.heap.size:=hC4.bB.1.1
         have hgnb:g<k4.heap.size:=hC4.src.lt
         have hk6:(fun (W:World)=>B<W.heap.size) _:=hC6.bB.1.1
         refine hK.out _ _ hk6 (fun _=>?_)
         clear hK K
         try simp only [Act.put,SL]
         obtain ⟨nb,hnbe⟩:∃z,z=k4.heap.size:=⟨_,rfl⟩
         obtain ⟨k6,hk6e⟩:∃z,z=k4.alloc (Obj.cells #[.string T,.int .i64 Y] 118):=⟨_,rfl⟩
         rw [←hnbe] at hP6 hlnb hgnb ⊢
         rw [←hk6e] at hC6 hP6 hk6 ⊢
         clear hb6 hk6e hnbe
         refine rd 1 (⟨some 27,.load 34 (.tmp 26),34,"l05_catalog.go:195",#[⟨0,.data⟩],none⟩) (fun K hK=>?_)
         have k1:k6.cell? ⟨B,1,none⟩=some (.slice (some ⟨mb+1,0,none⟩) 1 1):=hC6.bB.1.2 1 (by simp)
         have kl:=hC6.bB.1.1
         go_simp
         try go_wp2_with fail
         clear k1 kl
         have hk7:(fun (W:World)=>B<W.heap.size) _:=hC6.bB.1.1
         refine hK.out _ _ hk7 (fun _=>?_)
         clear hK K
         try simp only [Act.put,SL]
         refine rd 12 (⟨some 38,.call {callee:=Callee.builtin Builtin.append,args:=#[.tmp 27,.tmp 37],argTypes:=#[34,34]},34,"l05_catalog.go:195",#[⟨1,.data⟩,⟨11,.data⟩,⟨7,.chain⟩],none⟩) (fun K hK=>?_)
         have hold:∀b:Addr,(some ⟨mb+1,0,none⟩:Option Addr)=some b→∀j u,([.string ⟨#[97,110,110]⟩,.int .i64 3000]:List Value)[j]? = some u→k6.cell? (b.add j)=some u:=by
          intro b e j u hu
          cases e
          obtain ⟨_,h0|⟨b',o',e',hl',hc'⟩⟩:=hC6.crs
          ·cases h0
          ·cases e'
           have h2:=hc' 0 (by omega)
           rw [Addr.add_lit]
           match j,hu with
           | 0,hu=>simp at hu;subst hu;exact h2.1
           | 1,hu=>simp at hu;subst hu;exact h2.2
         have hnw:∀j u,([.string T,.int .i64 Y]:List Value)[j]? = some u→k6.cell? ((⟨nb,0,none⟩:Addr).add j)=some u:=by
          intro j u hu
          have hjl:=(List.getElem?_eq_some_iff.1 hu).1
          rw [Addr.add_lit,Nat.zero_add,hP6.1.2 j hjl]
          exact hu
         refine step_append_grows rfl _ _ 34 rfl 118 i0 (.agg #[.string ⟨#[]⟩,.int .i64 0]) 2 24 Tryz.underlying34 hi hz0 hz1 hz2 rfl gz2 (some ⟨mb+1,0,none⟩) 1 1 [.string ⟨#[97,110,110]⟩,.int .i64 3000] rfl (fun e=>by cases e) rfl hold ⟨nb,0,none⟩ 1 1 [.string T,.int .i64 Y] rfl rfl hnw (by intro u hu;simp at hu;rcases hu with rfl|rfl<;>rfl) gz3 gz4 gz5 ?_
         intro v' q8 hown hgrow
         have hb8:Below k6.heap.size k6 q8:=⟨hgrow.os,hgrow.tape,hgrow.output,hgrow.size,fun k hk=>hgrow.block k hk (by simp)⟩
         have hC8:=hC6.below hb8
         have hlW:B<k6.heap.size:=hC6.bB.1.1
         obtain ⟨go',gc,rfl,hmd⟩:=RowG.own_made (k:=2) (cells:=crC) (z:=Cr.zero) (xs:=[⟨⟨#[97,110,110]⟩,3000⟩,⟨T,Y⟩]) crC_len (by simpa [RowG.cellsAll,crC] using hown)
         try go_wp2_with fail
         clear hold hnw hgrow hb8
         have hk8:(fun (W:World)=>B<W.heap.size) _:=hC8.bB.1.1
         refine hK.out _ _ hk8 (fun _=>?_)
         clear hK K
         try simp only [Act.put,SL]
         refine tk 13 (⟨some 39,.fieldAddr 36 (.tmp 3) 1,0,"l05_catalog.go:195",#[⟨0,.phase⟩,⟨1,.phase⟩,⟨2,.phase⟩,⟨3,.phase⟩,⟨4,.phase⟩,⟨5,.phase⟩,⟨6,.phase⟩,⟨7,.phase⟩,⟨8,.phase⟩,⟨9,.phase⟩,⟨10,.phase⟩,⟨11,.phase⟩,⟨12,.phase⟩],none⟩) ?_
         refine rd 14 (⟨none,.store 34 (.tmp 39) (.tmp 38),0,"l05_catalog.go:195",#[⟨13,.data⟩,⟨12,.data⟩,⟨12,.chain⟩,⟨0,.phase⟩,⟨1,.phase⟩,⟨2,.phase⟩,⟨3,.phase⟩,⟨4,.phase⟩,⟨5,.phase⟩,⟨6,.phase⟩,⟨7,.phase⟩,⟨8,.phase⟩,⟨9,.phase⟩,⟨10,.phase⟩,⟨11,.phase⟩,⟨12,.phase⟩],none⟩) (fun K hK=>?_)
         have hnb:∀b o,go'=some ⟨b,o,none⟩→B<b∧some b≠some B:=fun b o e=>by
          rcases hmd.own with h0|⟨x,e',hx,_⟩
          ·cases h0
          ·rw [e] at e'
           cases e'
           exact ⟨by omega,by simp only [ne_eq,Option.some.injEq];omega⟩
         have k1:q8.cell? ⟨B,1,none⟩=some (.slice (some ⟨mb+1,0,none⟩) 1 1):=hC8.bB.1.2 1 (by simp)
         have z1:=hC8.bB.2 1 (by simp)
         have hml:=hC8.bB.1.1
         go_simp
         try go_wp2_with fail
         have hgr:=RowG.grown_set q8 B 1 (.slice go' 2 gc)
         have hmp:=hC8.mes.kept hgr (by omega) (by omega)
         have hcr:Crs go' 2 [⟨⟨#[97,110,110]⟩,3000⟩,⟨T,Y⟩] (q8.setCell ⟨B,1,none⟩ (.slice go' 2 gc)):=crs_of (hmd.rws.grown hgr (.inr (fun b o e=>(hnb b o e).2)))
         have hbB:=hC8.bB.set 1 (.slice go' 2 gc) (by simp)
         simp only [List.set_cons_zero,List.set_cons_succ] at hbB
         have hbR:=OwG.blkW_grown hC8.bR hgr (by simp only [ne_eq,Option.some.injEq];omega)
         have hsr:=hC8.src.kept hgr (fun k e=>by cases e;omega)
         have hgw:=hC8.grew.andThen hgr (fun k e=>by cases e;exact .inl (by omega))
         clear k1 z1
         have hk9:(fun (W:World)=>B<W.heap.size) _:=hbB.1.1
         refine hK.out _ _ hk9 (fun _=>?_)
         clear hK K
         try simp only [Act.put,SL]
         refine wpAnyH_done (by kernel_rfl) ?_ _
         generalize (q8.setCell ⟨B,1,none⟩ (.slice go' 2 gc))=WS at *
         have HF:=H_ (show CaOut ao len cap g w (.returned (.agg #[.slice (some ⟨mb,0,none⟩) plainM.length 4,.slice go' ([⟨⟨#[97,110,110]⟩,3000⟩,⟨T,Y⟩]:List Cr).length gc])) (StR.stL WS w.heap.size 0 [.slice (some ⟨mb,0,none⟩) 4 4,.slice go' 2 gc]) from by
          have hr:=StR.stL_grown w.heap.size [.slice (some ⟨mb,0,none⟩) 4 4,.slice go' 2 gc] 0 WS
          exact CS.fin (c:=⟨plainM,[⟨⟨#[97,110,110]⟩,3000⟩,⟨T,Y⟩]⟩) hsr hgw hgl (hmp.kept hr (by omega) (by omega)).mes (crs_keptG hcr hr (fun b o e=>by have:=(hnb b o e).1;omega)) (small_of hmp (by omega) (by simp) (by intro c hc;simp at hc;rcases hc with rfl|rfl;decide;exact hTs)) (fun W' hsz hk=>⟨((hmp.kept hr (by omega) (by omega)).kp (fun b h=>Nat.le_of_lt h.1) (by omega) hsz hk).mes,crs_kp (crs_keptG hcr hr (fun b o e=>by have:=(hnb b o e).1;omega)) hsz (fun b o e hl=>hk b (by have:=(hnb b o e).1;omega) hl)⟩))
         simp only [StR.stL,Nat.zero_add,Nat.reduceAdd] at HF
         have b0:WS.cell? ⟨B,0,none⟩=some (.slice (some ⟨mb,0,none⟩) 4 4):=hbB.1.2 0 (by simp)
         have b1:WS.cell? ⟨B,1,none⟩=some (.slice go' 2 gc):=hbB.1.2 1 (by simp)
         have bl:=hbB.1.1
         have r0:WS.cell? ⟨w.heap.size,0,none⟩=some (.slice none 0 0):=hbR.1.2 0 (by simp)
         have r1:WS.cell? ⟨w.heap.size,1,none⟩=some (.slice none 0 0):=hbR.1.2 1 (by simp)
         have rl:=hbR.1.1
         have f0:=hbR.2 0 (by simp)
         have f1:=hbR.2 1 (by simp)
         have hne:¬B=w.heap.size:=by omega
         go_wp2_with fail
         refine bodyPost_ret (v:=.agg #[.slice (some ⟨mb,0,none⟩) 4 4,.slice go' 2 gc]) (by simp [results,Tryz.results60,go_sem,r0,r1]) rfl HF.out
    ·go_simp
     try go_wp2_with fail
     have hb2:Below k1.heap.size k1 (k1.alloc (Obj.cells #[.int .i64 (-1),.int .i64 0,.int .i64 1000,.int .i64 1000000000001] 2)):=(Below.refl _ _).alloc (Nat.le_refl _) _
     have hC2:=hC1.below hb2
     have hP2:=hP1.below hb2
     have hI2:=DocR.BlkW.new k1 [.int .i64 (-1),.int .i64 0,.int .i64 1000,.int .i64 1000000000001] 2
     have hlib:B<k1.heap.size:=hC1.bB.1.1
     have hgib:g<k1.heap.size:=hC1.src.lt
     have hk2:(fun (W:World)=>B<W.heap.size) _:=hC2.bB.1.1
     refine hK.out _ _ hk2 (fun _=>?_)
     clear hK K
     try simp only [Act.put,SL]
     obtain ⟨ib,hibe⟩:∃z,z=k1.heap.size:=⟨_,rfl⟩
     obtain ⟨k2,hk2e⟩:∃z,z=k1.alloc (Obj.cells #[.int .i64 (-1),.int .i64 0,.int .i64 1000,.int .i64 1000000000001] 2):=⟨_,rfl⟩
     rw [←hibe] at hI2 hlib hgib ⊢
     rw [←hk2e] at hC2 hI2 hk2 ⊢
     rw [←hk2e] at hP2
     clear hb2 hk2e hibe
     refine wpAnyH_ready (rs:=[1,4]) (by kernel_rfl) (by simp) ?_
     refine AllReadyH.cons (o:=⟨some 27,.load 34 (.tmp 26),34,"l05_catalog.go:195",#[⟨0,.data⟩],none⟩) rfl (fun K hK=>?_) (AllReadyH.cons (o:=⟨some 30,.call {callee:=Callee.value (.func 61),args:=#[.tmp 28,.tmp 29],argTypes:=#[94,64]},9,"l05_catalog.go:195",#[⟨2,.data⟩,⟨3,.data⟩],none⟩) rfl (fun K hK=>?_) AllReadyH.nil)
     ·have k1:k2.cell? ⟨B,1,none⟩=some (.slice (some ⟨mb+1,0,none⟩) 1 1):=hC2.bB.1.2 1 (by simp)
      have kl:=hC2.bB.1.1
      go_simp
      try go_wp2_with fail
      clear k1 kl
      have hk3:(fun (W:World)=>B<W.heap.size) _:=hC2.bB.1.1
      refine hK.out _ _ hk3 (fun _=>?_)
      clear hK K
      try simp only [Act.put,SL]
      refine rd 4 (⟨some 30,.call {callee:=Callee.value (.func 61),args:=#[.tmp 28,.tmp 29],argTypes:=#[94,64]},9,"l05_catalog.go:195",#[⟨2,.data⟩,⟨3,.data⟩],none⟩) (fun K hK=>?_)
      go_simp
      have hstr:Strs sb 2 100 k2:=⟨hP2.1.1,fun j hj=>by
       match j,hj with
       | 0,_=>exact ⟨_,hP2.1.2 0 (by simp),by decide⟩
       | 1,_=>exact ⟨_,hP2.1.2 1 (by simp),by decide⟩⟩
      go_at_call 61
      refine (pick_any ao len cap g sb 2 100 _ (by omega) (by omega) (by omega) hC2.src hstr).mono ?_
      rintro e q4 ⟨⟨T,rfl,hTs⟩,hS4,hg4⟩
      have hC4:=hC2.step hgl hmB hS4 hg4
      have hI4:=OwG.blkW_grown hI2 hg4 (by simp only [ne_eq,Option.some.injEq];omega)
      clear hstr
      try go_wp2_with fail
      have hk4:(fun (W:World)=>B<W.heap.size) _:=hC4.bB.1.1
      refine hK.out _ _ hk4 (fun _=>?_)
      clear hK K
      try simp only [Act.put,SL]
      refine rd 7 (⟨some 33,.call {callee:=Callee.value (.func 65),args:=#[.tmp 32,.const (Value.int IntKind.i64 4)],argTypes:=#[94,2]},2,"l05_catalog.go:195",#[⟨6,.data⟩,⟨4,.chain⟩],none⟩) (fun K hK=>?_)
      go_simp
      go_at_call 65
      refine (HN.out 4 _ (by omega) hC4.src).mono ?_
      rintro e q5 ⟨v5,rfl,lo5,-,hi5,hS5,hg5⟩
      have ht5:v5<4:=hi5 (by omega)
      obtain ⟨tt,rfl⟩:∃j:Nat,v5=(j:Int):=⟨v5.toNat,by omega⟩
      have htt4:tt<4:=by omega
      have htt4i:((tt:Nat):Int)<4:=by omega
      have hC5:=hC4.step hgl hmB hS5 hg5
      have hI5:=OwG.blkW_grown hI4 hg5 (by simp only [ne_eq,Option.some.injEq];omega)
      clear hi5 lo5 ht5
      try go_wp2_with fail
      have hk5:(fun (W:World)=>B<W.heap.size) _:=hC5.bB.1.1
      refine hK.out _ _ hk5 (fun _=>?_)
      clear hK K
      try simp only [Act.put,SL]
      refine tk 8 (⟨some 34,.indexAddr 101 (.tmp 31) (.tmp 33),0,"l05_catalog.go:195",#[⟨5,.data⟩,⟨7,.data⟩],none⟩) ?_
      exact TAIL.out sb ib tt T q5 ⟨hC5,hI5,hTs,htt4⟩
     ·go_simp
      have hstr:Strs sb 2 100 k2:=⟨hP2.1.1,fun j hj=>by
       match j,hj with
       | 0,_=>exact ⟨_,hP2.1.2 0 (by simp),by decide⟩
       | 1,_=>exact ⟨_,hP2.1.2 1 (by simp),by decide⟩⟩
      go_at_call 61
      refine (pick_any ao len cap g sb 2 100 _ (by omega) (by omega) (by omega) hC2.src hstr).mono ?_
      rintro e q3 ⟨⟨T,rfl,hTs⟩,hS3,hg3⟩
      have hC3:=hC2.step hgl hmB hS3 hg3
      have hI3:=OwG.blkW_grown hI2 hg3 (by simp only [ne_eq,Option.some.injEq];omega)
      clear hstr
      try go_wp2_with fail
      have hk3:(fun (W:World)=>B<W.heap.size) _:=hC3.bB.1.1
      refine hK.out _ _ hk3 (fun _=>?_)
      clear hK K
      try simp only [Act.put,SL]
      refine wpAnyH_ready (rs:=[1,7]) (by kernel_rfl) (by simp) ?_
      refine AllReadyH.cons (o:=⟨some 27,.load 34 (.tmp 26),34,"l05_catalog.go:195",#[⟨0,.data⟩],none⟩) rfl (fun K hK=>?_) (AllReadyH.cons (o:=⟨some 33,.call {callee:=Callee.value (.func 65),args:=#[.tmp 32,.const (Value.int IntKind.i64 4)],argTypes:=#[94,2]},2,"l05_catalog.go:195",#[⟨6,.data⟩,⟨4,.chain⟩],none⟩) rfl (fun K hK=>?_) AllReadyH.nil)
      ·have k1:q3.cell? ⟨B,1,none⟩=some (.slice (some ⟨mb+1,0,none⟩) 1 1):=hC3.bB.1.2 1 (by simp)
       have kl:=hC3.bB.1.1
       go_simp
       try go_wp2_with fail
       clear k1 kl
       have hk4:(fun (W:World)=>B<W.heap.size) _:=hC3.bB.1.1
       refine hK.out _ _ hk4 (fun _=>?_)
       clear hK K
       try simp only [Act.put,SL]
       refine rd 7 (⟨some 33,.call {callee:=Callee.value (.func 65),args:=#[.tmp 32,.const (Value.int IntKind.i64 4)],argTypes:=#[94,2]},2,"l05_catalog.go:195",#[⟨6,.data⟩,⟨4,.chain⟩],none⟩) (fun K hK=>?_)
       go_simp
       go_at_call 65
       refine (HN.out 4 _ (by omega) hC3.src).mono ?_
       rintro e q5 ⟨v5,rfl,lo5,-,hi5,hS5,hg5⟩
       have ht5:v5<4:=hi5 (by omega)
       obtain ⟨tt,rfl⟩:∃j:Nat,v5=(j:Int):=⟨v5.toNat,by omega⟩
       have htt4:tt<4:=by omega
       have htt4i:((tt:Nat):Int)<4:=by omega
       have hC5:=hC3.step hgl hmB hS5 hg5
       have hI5:=OwG.blkW_grown hI3 hg5 (by simp only [ne_eq,Option.some.injEq];omega)
       clear hi5 lo5 ht5
       try go_wp2_with fail
       have hk5:(fun (W:World)=>B<W.heap.size) _:=hC5.bB.1.1
       refine hK.out _ _ hk5 (fun _=>?_)
       clear hK K
       try simp only [Act.put,SL]
       refine tk 8 (⟨some 34,.indexAddr 101 (.tmp 31) (.tmp 33),0,"l05_catalog.go:195",#[⟨5,.data⟩,⟨7,.data⟩],none⟩) ?_
       exact TAIL.out sb ib tt T q5 ⟨hC5,hI5,hTs,htt4⟩
      ·go_simp
       go_at_call 65
       refine (HN.out 4 _ (by omega) hC3.src).mono ?_
       rintro e q4 ⟨v4,rfl,lo4,-,hi4,hS4,hg4⟩
       have ht4:v4<4:=hi4 (by omega)
       obtain ⟨tt,rfl⟩:∃j:Nat,v4=(j:Int):=⟨v4.toNat,by omega⟩
       have htt4:tt<4:=by omega
       have htt4i:((tt:Nat):Int)<4:=by omega
       have hC4:=hC3.step hgl hmB hS4 hg4
       have hI4:=OwG.blkW_grown hI3 hg4 (by simp only [ne_eq,Option.some.injEq];omega)
       clear hi4 lo4 ht4
       try go_wp2_with fail
       have hk4:(fun (W:World)=>B<W.heap.size) _:=hC4.bB.1.1
       refine hK.out _ _ hk4 (fun _=>?_)
       clear hK K
       try simp only [Act.put,SL]
       refine tk 8 (⟨some 34,.indexAddr 101 (.tmp 31) (.tmp 33),0,"l05_catalog.go:195",#[⟨5,.data⟩,⟨7,.data⟩],none⟩) ?_
       refine wpAnyH_ready (rs:=[1,9]) (by kernel_rfl) (by simp) ?_
       refine AllReadyH.cons (o:=⟨some 27,.load 34 (.tmp 26),34,"l05_catalog.go:195",#[⟨0,.data⟩],none⟩) rfl (fun K hK=>?_) (AllReadyH.cons (o:=⟨some 35,.load 2 (.tmp 34),2,"l05_catalog.go:195",#[⟨8,.data⟩],none⟩) rfl (fun K hK=>?_) AllReadyH.nil)
       ·have k1:q4.cell? ⟨B,1,none⟩=some (.slice (some ⟨mb+1,0,none⟩) 1 1):=hC4.bB.1.2 1 (by simp)
        have kl:=hC4.bB.1.1
        go_simp
        try go_wp2_with fail
        clear k1 kl
        have hk5:(fun (W:World)=>B<W.heap.size) _:=hC4.bB.1.1
        refine hK.out _ _ hk5 (fun _=>?_)
        clear hK K
        try simp only [Act.put,SL]
        exact TAIL.out sb ib tt T q4 ⟨hC4,hI4,hTs,htt4⟩
       ·obtain ⟨Y,hY⟩:∃Y:Int,q4.cell? ⟨ib,tt,none⟩=some (.int .i64 Y):=by
         rcases (show tt=0∨tt=1∨tt=2∨tt=3 by omega) with rfl|rfl|rfl|rfl
         ·exact ⟨_,hI4.1.2 0 (by simp)⟩
         ·exact ⟨_,hI4.1.2 1 (by simp)⟩
         ·exact ⟨_,hI4.1.2 2 (by simp)⟩
         ·exact ⟨_,hI4.1.2 3 (by simp)⟩
        have hil:=hI4.1.1
        go_simp
        try go_wp2_with fail
        clear hY hil
        have hk5:(fun (W:World)=>B<W.heap.size) _:=hC4.bB.1.1
        refine hK.out _ _ hk5 (fun _=>?_)
        clear hK K
        try simp only [Act.put,SL]
        refine tk 10 (⟨some 36,.build 118 #[(0,.tmp 30),(1,.tmp 35)],118,"l05_catalog.go:195",#[⟨4,.data⟩,⟨9,.data⟩],none⟩) ?_
        refine wpAnyH_ready (rs:=[1,11]) (by kernel_rfl) (by simp) ?_
        refine AllReadyH.cons (o:=⟨some 27,.load 34 (.tmp 26),34,"l05_catalog.go:195",#[⟨0,.data⟩],none⟩) rfl (fun K hK=>?_) (AllReadyH.cons (o:=⟨some 37,.buildSlice 34 1 #[(0,.tmp 36)],34,"l05_catalog.go:195",#[⟨10,.data⟩],none⟩) rfl (fun K hK=>?_) AllReadyH.nil)
        ·have k1:q4.cell? ⟨B,1,none⟩=some (.slice (some ⟨mb+1,0,none⟩) 1 1):=hC4.bB.1.2 1 (by simp)
         have kl:=hC4.bB.1.1
         go_simp
         try go_wp2_with fail
         clear k1 kl
         have hk6:(fun (W:World)=>B<W.heap.size) _:=hC4.bB.1.1
         refine hK.out _ _ hk6 (fun _=>?_)
         clear hK K
         try simp only [Act.put,SL]
         refine rd 11 (⟨some 37,.buildSlice 34 1 #[(0,.tmp 36)],34,"l05_catalog.go:195",#[⟨10,.data⟩],none⟩) (fun K hK=>?_)
         go_simp
         try go_wp2_with fail
         have hb7:Below q4.heap.size q4 (q4.alloc (Obj.cells #[.string T,.int .i64 Y] 118)):=(Below.refl _ _).alloc (Nat.le_refl _) _
         have hC7:=hC4.below hb7
         have hP7:=DocR.BlkW.new q4 [.string T,.int .i64 Y] 118
         have hlnb:B<q4.heap.size:=hC4.bB.1.1
         have hgnb:g<q4.heap.size:=hC4.src.lt
         have hk7:(fun (W:World)=>B<W.heap.size) _:=hC7.bB.1.1
         refine hK.out _ _ hk7 (fun _=>?_)
         clear hK K
         try simp only [Act.put,SL]
         obtain ⟨nb,hnbe⟩:∃z,z=q4.heap.size:=⟨_,rfl⟩
         obtain ⟨k7,hk7e⟩:∃z,z=q4.alloc (Obj.cells #[.string T,.int .i64 Y] 118):=⟨_,rfl⟩
         rw [←hnbe] at hP7 hlnb hgnb ⊢
         rw [←hk7e] at hC7 hP7 hk7 ⊢
         clear hb7 hk7e hnbe
         refine rd 12 (⟨some 38,.call {callee:=Callee.builtin Builtin.append,args:=#[.tmp 27,.tmp 37],argTypes:=#[34,34]},34,"l05_catalog.go:195",#[⟨1,.data⟩,⟨11,.data⟩,⟨7,.chain⟩],none⟩) (fun K hK=>?_)
         have hold:∀b:Addr,(some ⟨mb+1,0,none⟩:Option Addr)=some b→∀j u,([.string ⟨#[97,110,110]⟩,.int .i64 3000]:List Value)[j]? = some u→k7.cell? (b.add j)=some u:=by
          intro b e j u hu
          cases e
          obtain ⟨_,h0|⟨b',o',e',hl',hc'⟩⟩:=hC7.crs
          ·cases h0
          ·cases e'
           have h2:=hc' 0 (by omega)
           rw [Addr.add_lit]
           match j,hu with
           | 0,hu=>simp at hu;subst hu;exact h2.1
           | 1,hu=>simp at hu;subst hu;exact h2.2
         have hnw:∀j u,([.string T,.int .i64 Y]:List Value)[j]? = some u→k7.cell? ((⟨nb,0,none⟩:Addr).add j)=some u:=by
          intro j u hu
          have hjl:=(List.getElem?_eq_some_iff.1 hu).1
          rw [Addr.add_lit,Nat.zero_add,hP7.1.2 j hjl]
          exact hu
         refine step_append_grows rfl _ _ 34 rfl 118 i0 (.agg #[.string ⟨#[]⟩,.int .i64 0]) 2 24 Tryz.underlying34 hi hz0 hz1 hz2 rfl gz2 (some ⟨mb+1,0,none⟩) 1 1 [.string ⟨#[97,110,110]⟩,.int .i64 3000] rfl (fun e=>by cases e) rfl hold ⟨nb,0,none⟩ 1 1 [.string T,.int .i64 Y] rfl rfl hnw (by intro u hu;simp at hu;rcases hu with rfl|rfl<;>rfl) gz3 gz4 gz5 ?_
         intro v' q8 hown hgrow
         have hb8:Below k7.heap.size k7 q8:=⟨hgrow.os,hgrow.tape,hgrow.output,hgrow.size,fun k hk=>hgrow.block k hk (by simp)⟩
         have hC8:=hC7.below hb8
         have hlW:B<k7.heap.size:=hC7.bB.1.1
         obtain ⟨go',gc,rfl,hmd⟩:=RowG.own_made (k:=2) (cells:=crC) (z:=Cr.zero) (xs:=[⟨⟨#[97,110,110]⟩,3000⟩,⟨T,Y⟩]) crC_len (by simpa [RowG.cellsAll,crC] using hown)
         try go_wp2_with fail
         clear hold hnw hgrow hb8
         have hk8:(fun (W:World)=>B<W.heap.size) _:=hC8.bB.1.1
         refine hK.out _ _ hk8 (fun _=>?_)
         clear hK K
         try simp only [Act.put,SL]
         refine tk 13 (⟨some 39,.fieldAddr 36 (.tmp 3) 1,0,"l05_catalog.go:195",#[⟨0,.phase⟩,⟨1,.phase⟩,⟨2,.phase⟩,⟨3,.phase⟩,⟨4,.phase⟩,⟨5,.phase⟩,⟨6,.phase⟩,⟨7,.phase⟩,⟨8,.phase⟩,⟨9,.phase⟩,⟨10,.phase⟩,⟨11,.phase⟩,⟨12,.phase⟩],none⟩) ?_
         refine rd 14 (⟨none,.store 34 (.tmp 39) (.tmp 38),0,"l05_catalog.go:195",#[⟨13,.data⟩,⟨12,.data⟩,⟨12,.chain⟩,⟨0,.phase⟩,⟨1,.phase⟩,⟨2,.phase⟩,⟨3,.phase⟩,⟨4,.phase⟩,⟨5,.phase⟩,⟨6,.phase⟩,⟨7,.phase⟩,⟨8,.phase⟩,⟨9,.phase⟩,⟨10,.phase⟩,⟨11,.phase⟩,⟨12,.phase⟩],none⟩) (fun K hK=>?_)
         have hnb:∀b o,go'=some ⟨b,o,none⟩→B<b∧some b≠some B:=fun b o e=>by
          rcases hmd.own with h0|⟨x,e',hx,_⟩
          ·cases h0
          ·rw [e] at e'
           cases e'
           exact ⟨by omega,by simp only [ne_eq,Option.some.injEq];omega⟩
         have k1:q8.cell? ⟨B,1,none⟩=some (.slice (some ⟨mb+1,0,none⟩) 1 1):=hC8.bB.1.2 1 (by simp)
         have z1:=hC8.bB.2 1 (by simp)
         have hml:=hC8.bB.1.1
         go_simp
         try go_wp2_with fail
         have hgr:=RowG.grown_set q8 B 1 (.slice go' 2 gc)
         have hmp:=hC8.mes.kept hgr (by omega) (by omega)
         have hcr:Crs go' 2 [⟨⟨#[97,110,110]⟩,3000⟩,⟨T,Y⟩] (q8.setCell ⟨B,1,none⟩ (.slice go' 2 gc)):=crs_of (hmd.rws.grown hgr (.inr (fun b o e=>(hnb b o e).2)))
         have hbB:=hC8.bB.set 1 (.slice go' 2 gc) (by simp)
         simp only [List.set_cons_zero,List.set_cons_succ] at hbB
         have hbR:=OwG.blkW_grown hC8.bR hgr (by simp only [ne_eq,Option.some.injEq];omega)
         have hsr:=hC8.src.kept hgr (fun k e=>by cases e;omega)
         have hgw:=hC8.grew.andThen hgr (fun k e=>by cases e;exact .inl (by omega))
         clear k1 z1
         have hk9:(fun (W:World)=>B<W.heap.size) _:=hbB.1.1
         refine hK.out _ _ hk9 (fun _=>?_)
         clear hK K
         try simp only [Act.put,SL]
         refine wpAnyH_done (by kernel_rfl) ?_ _
         generalize (q8.setCell ⟨B,1,none⟩ (.slice go' 2 gc))=WS at *
         have HF:=H_ (show CaOut ao len cap g w (.returned (.agg #[.slice (some ⟨mb,0,none⟩) plainM.length 4,.slice go' ([⟨⟨#[97,110,110]⟩,3000⟩,⟨T,Y⟩]:List Cr).length gc])) (StR.stL WS w.heap.size 0 [.slice (some ⟨mb,0,none⟩) 4 4,.slice go' 2 gc]) from by
          have hr:=StR.stL_grown w.heap.size [.slice (some ⟨mb,0,none⟩) 4 4,.slice go' 2 gc] 0 WS
          exact CS.fin (c:=⟨plainM,[⟨⟨#[97,110,110]⟩,3000⟩,⟨T,Y⟩]⟩) hsr hgw hgl (hmp.kept hr (by omega) (by omega)).mes (crs_keptG hcr hr (fun b o e=>by have:=(hnb b o e).1;omega)) (small_of hmp (by omega) (by simp) (by intro c hc;simp at hc;rcases hc with rfl|rfl;decide;exact hTs)) (fun W' hsz hk=>⟨((hmp.kept hr (by omega) (by omega)).kp (fun b h=>Nat.le_of_lt h.1) (by omega) hsz hk).mes,crs_kp (crs_keptG hcr hr (fun b o e=>by have:=(hnb b o e).1;omega)) hsz (fun b o e hl=>hk b (by have:=(hnb b o e).1;omega) hl)⟩))
         simp only [StR.stL,Nat.zero_add,Nat.reduceAdd] at HF
         have b0:WS.cell? ⟨B,0,none⟩=some (.slice (some ⟨mb,0,none⟩) 4 4):=hbB.1.2 0 (by simp)
         have b1:WS.cell? ⟨B,1,none⟩=some (.slice go' 2 gc):=hbB.1.2 1 (by simp)
         have bl:=hbB.1.1
         have r0:WS.cell? ⟨w.heap.size,0,none⟩=some (.slice none 0 0):=hbR.1.2 0 (by simp)
         have r1:WS.cell? ⟨w.heap.size,1,none⟩=some (.slice none 0 0):=hbR.1.2 1 (by simp)
         have rl:=hbR.1.1
         have f0:=hbR.2 0 (by simp)
         have f1:=hbR.2 1 (by simp)
         have hne:¬B=w.heap.size:=by omega
         go_wp2_with fail
         refine bodyPost_ret (v:=.agg #[.slice (some ⟨mb,0,none⟩) 4 4,.slice go' 2 gc]) (by simp [results,Tryz.results60,go_sem,r0,r1]) rfl HF.out
        ·go_simp
         try go_wp2_with fail
         have hb6:Below q4.heap.size q4 (q4.alloc (Obj.cells #[.string T,.int .i64 Y] 118)):=(Below.refl _ _).alloc (Nat.le_refl _) _
         have hC6:=hC4.below hb6
         have hP6:=DocR.BlkW.new q4 [.string T,.int .i64 Y] 118
         have hlnb:B<q4.heap.size:=hC4.bB.1.1
         have hgnb:g<q4.heap.size:=hC4.src.lt
         have hk6:(fun (W:World)=>B<W.heap.size) _:=hC6.bB.1.1
         refine hK.out _ _ hk6 (fun _=>?_)
         clear hK K
         try simp only [Act.put,SL]
         obtain ⟨nb,hnbe⟩:∃z,z=q4.heap.size:=⟨_,rfl⟩
         obtain ⟨k6,hk6e⟩:∃z,z=q4.alloc (Obj.cells #[.string T,.int .i64 Y] 118):=⟨_,rfl⟩
         rw [←hnbe] at hP6 hlnb hgnb ⊢
         rw [←hk6e] at hC6 hP6 hk6 ⊢
         clear hb6 hk6e hnbe
         refine rd 1 (⟨some 27,.load 34 (.tmp 26),34,"l05_catalog.go:195",#[⟨0,.data⟩],none⟩) (fun K hK=>?_)
         have k1:k6.cell? ⟨B,1,none⟩=some (.slice (some ⟨mb+1,0,none⟩) 1 1):=hC6.bB.1.2 1 (by simp)
         have kl:=hC6.bB.1.1
         go_simp
         try go_wp2_with fail
         clear k1 kl
         have hk7:(fun (W:World)=>B<W.heap.size) _:=hC6.bB.1.1
         refine hK.out _ _ hk7 (fun _=>?_)
         clear hK K
         try simp only [Act.put,SL]
         refine rd 12 (⟨some 38,.call {callee:=Callee.builtin Builtin.append,args:=#[.tmp 27,.tmp 37],argTypes:=#[34,34]},34,"l05_catalog.go:195",#[⟨1,.data⟩,⟨11,.data⟩,⟨7,.chain⟩],none⟩) (fun K hK=>?_)
         have hold:∀b:Addr,(some ⟨mb+1,0,none⟩:Option Addr)=some b→∀j u,([.string ⟨#[97,110,110]⟩,.int .i64 3000]:List Value)[j]? = some u→k6.cell? (b.add j)=some u:=by
          intro b e j u hu
          cases e
          obtain ⟨_,h0|⟨b',o',e',hl',hc'⟩⟩:=hC6.crs
          ·cases h0
          ·cases e'
           have h2:=hc' 0 (by omega)
           rw [Addr.add_lit]
           match j,hu with
           | 0,hu=>simp at hu;subst hu;exact h2.1
           | 1,hu=>simp at hu;subst hu;exact h2.2
         have hnw:∀j u,([.string T,.int .i64 Y]:List Value)[j]? = some u→k6.cell? ((⟨nb,0,none⟩:Addr).add j)=some u:=by
          intro j u hu
          have hjl:=(List.getElem?_eq_some_iff.1 hu).1
          rw [Addr.add_lit,Nat.zero_add,hP6.1.2 j hjl]
          exact hu
         refine step_append_grows rfl _ _ 34 rfl 118 i0 (.agg #[.string ⟨#[]⟩,.int .i64 0]) 2 24 Tryz.underlying34 hi hz0 hz1 hz2 rfl gz2 (some ⟨mb+1,0,none⟩) 1 1 [.string ⟨#[97,110,110]⟩,.int .i64 3000] rfl (fun e=>by cases e) rfl hold ⟨nb,0,none⟩ 1 1 [.string T,.int .i64 Y] rfl rfl hnw (by intro u hu;simp at hu;rcases hu with rfl|rfl<;>rfl) gz3 gz4 gz5 ?_
         intro v' q8 hown hgrow
         have hb8:Below k6.heap.size k6 q8:=⟨hgrow.os,hgrow.tape,hgrow.output,hgrow.size,fun k hk=>hgrow.block k hk (by simp)⟩
         have hC8:=hC6.below hb8
         have hlW:B<k6.heap.size:=hC6.bB.1.1
         obtain ⟨go',gc,rfl,hmd⟩:=RowG.own_made (k:=2) (cells:=crC) (z:=Cr.zero) (xs:=[⟨⟨#[97,110,110]⟩,3000⟩,⟨T,Y⟩]) crC_len (by simpa [RowG.cellsAll,crC] using hown)
         try go_wp2_with fail
         clear hold hnw hgrow hb8
         have hk8:(fun (W:World)=>B<W.heap.size) _:=hC8.bB.1.1
         refine hK.out _ _ hk8 (fun _=>?_)
         clear hK K
         try simp only [Act.put,SL]
         refine tk 13 (⟨some 39,.fieldAddr 36 (.tmp 3) 1,0,"l05_catalog.go:195",#[⟨0,.phase⟩,⟨1,.phase⟩,⟨2,.phase⟩,⟨3,.phase⟩,⟨4,.phase⟩,⟨5,.phase⟩,⟨6,.phase⟩,⟨7,.phase⟩,⟨8,.phase⟩,⟨9,.phase⟩,⟨10,.phase⟩,⟨11,.phase⟩,⟨12,.phase⟩],none⟩) ?_
         refine rd 14 (⟨none,.store 34 (.tmp 39) (.tmp 38),0,"l05_catalog.go:195",#[⟨13,.data⟩,⟨12,.data⟩,⟨12,.chain⟩,⟨0,.phase⟩,⟨1,.phase⟩,⟨2,.phase⟩,⟨3,.phase⟩,⟨4,.phase⟩,⟨5,.phase⟩,⟨6,.phase⟩,⟨7,.phase⟩,⟨8,.phase⟩,⟨9,.phase⟩,⟨10,.phase⟩,⟨11,.phase⟩,⟨12,.phase⟩],none⟩) (fun K hK=>?_)
         have hnb:∀b o,go'=some ⟨b,o,none⟩→B<b∧some b≠some B:=fun b o e=>by
          rcases hmd.own with h0|⟨x,e',hx,_⟩
          ·cases h0
          ·rw [e] at e'
           cases e'
           exact ⟨by omega,by simp only [ne_eq,Option.some.injEq];omega⟩
         have k1:q8.cell? ⟨B,1,none⟩=some (.slice (some ⟨mb+1,0,none⟩) 1 1):=hC8.bB.1.2 1 (by simp)
         have z1:=hC8.bB.2 1 (by simp)
         have hml:=hC8.bB.1.1
         go_simp
         try go_wp2_with fail
         have hgr:=RowG.grown_set q8 B 1 (.slice go' 2 gc)
         have hmp:=hC8.mes.kept hgr (by omega) (by omega)
         have hcr:Crs go' 2 [⟨⟨#[97,110,110]⟩,3000⟩,⟨T,Y⟩] (q8.setCell ⟨B,1,none⟩ (.slice go' 2 gc)):=crs_of (hmd.rws.grown hgr (.inr (fun b o e=>(hnb b o e).2)))
         have hbB:=hC8.bB.set 1 (.slice go' 2 gc) (by simp)
         simp only [List.set_cons_zero,List.set_cons_succ] at hbB
         have hbR:=OwG.blkW_grown hC8.bR hgr (by simp only [ne_eq,Option.some.injEq];omega)
         have hsr:=hC8.src.kept hgr (fun k e=>by cases e;omega)
         have hgw:=hC8.grew.andThen hgr (fun k e=>by cases e;exact .inl (by omega))
         clear k1 z1
         have hk9:(fun (W:World)=>B<W.heap.size) _:=hbB.1.1
         refine hK.out _ _ hk9 (fun _=>?_)
         clear hK K
         try simp only [Act.put,SL]
         refine wpAnyH_done (by kernel_rfl) ?_ _
         generalize (q8.setCell ⟨B,1,none⟩ (.slice go' 2 gc))=WS at *
         have HF:=H_ (show CaOut ao len cap g w (.returned (.agg #[.slice (some ⟨mb,0,none⟩) plainM.length 4,.slice go' ([⟨⟨#[97,110,110]⟩,3000⟩,⟨T,Y⟩]:List Cr).length gc])) (StR.stL WS w.heap.size 0 [.slice (some ⟨mb,0,none⟩) 4 4,.slice go' 2 gc]) from by
          have hr:=StR.stL_grown w.heap.size [.slice (some ⟨mb,0,none⟩) 4 4,.slice go' 2 gc] 0 WS
          exact CS.fin (c:=⟨plainM,[⟨⟨#[97,110,110]⟩,3000⟩,⟨T,Y⟩]⟩) hsr hgw hgl (hmp.kept hr (by omega) (by omega)).mes (crs_keptG hcr hr (fun b o e=>by have:=(hnb b o e).1;omega)) (small_of hmp (by omega) (by simp) (by intro c hc;simp at hc;rcases hc with rfl|rfl;decide;exact hTs)) (fun W' hsz hk=>⟨((hmp.kept hr (by omega) (by omega)).kp (fun b h=>Nat.le_of_lt h.1) (by omega) hsz hk).mes,crs_kp (crs_keptG hcr hr (fun b o e=>by have:=(hnb b o e).1;omega)) hsz (fun b o e hl=>hk b (by have:=(hnb b o e).1;omega) hl)⟩))
         simp only [StR.stL,Nat.zero_add,Nat.reduceAdd] at HF
         have b0:WS.cell? ⟨B,0,none⟩=some (.slice (some ⟨mb,0,none⟩) 4 4):=hbB.1.2 0 (by simp)
         have b1:WS.cell? ⟨B,1,none⟩=some (.slice go' 2 gc):=hbB.1.2 1 (by simp)
         have bl:=hbB.1.1
         have r0:WS.cell? ⟨w.heap.size,0,none⟩=some (.slice none 0 0):=hbR.1.2 0 (by simp)
         have r1:WS.cell? ⟨w.heap.size,1,none⟩=some (.slice none 0 0):=hbR.1.2 1 (by simp)
         have rl:=hbR.1.1
         have f0:=hbR.2 0 (by simp)
         have f1:=hbR.2 1 (by simp)
         have hne:¬B=w.heap.size:=by omega
         go_wp2_with fail
         refine bodyPost_ret (v:=.agg #[.slice (some ⟨mb,0,none⟩) 4 4,.slice go' 2 gc]) (by simp [results,Tryz.results60,go_sem,r0,r1]) rfl HF.out
   ·go_simp
    try go_wp2_with fail
    have hb1:Below kd.heap.size kd (kd.alloc (Obj.cells #[.int .i64 (-1),.int .i64 0,.int .i64 1000,.int .i64 1000000000001] 2)):=(Below.refl _ _).alloc (Nat.le_refl _) _
    have hC1:=hC0.below hb1
    have hI1:=DocR.BlkW.new kd [.int .i64 (-1),.int .i64 0,.int .i64 1000,.int .i64 1000000000001] 2
    have hlib:B<kd.heap.size:=hC0.bB.1.1
    have hgib:g<kd.heap.size:=hC0.src.lt
    have hk1:(fun (W:World)=>B<W.heap.size) _:=hC1.bB.1.1
    refine hK.out _ _ hk1 (fun _=>?_)
    clear hK K
    try simp only [Act.put,SL]
    obtain ⟨ib,hibe⟩:∃z,z=kd.heap.size:=⟨_,rfl⟩
    obtain ⟨k1,hk1e⟩:∃z,z=kd.alloc (Obj.cells #[.int .i64 (-1),.int .i64 0,.int .i64 1000,.int .i64 1000000000001] 2):=⟨_,rfl⟩
    rw [←hibe] at hI1 hlib hgib ⊢
    rw [←hk1e] at hC1 hI1 hk1 ⊢
    clear hb1 hk1e hibe
    refine wpAnyH_ready (rs:=[1,3]) (by kernel_rfl) (by simp) ?_
    refine AllReadyH.cons (o:=⟨some 27,.load 34 (.tmp 26),34,"l05_catalog.go:195",#[⟨0,.data⟩],none⟩) rfl (fun K hK=>?_) (AllReadyH.cons (o:=⟨some 29,.buildSlice 64 2 #[(0,.const (Value.string {data:=#[97,110,110]})),(1,.const (Value.string {data:=#[98,111,98]}))],64,"l05_catalog.go:195",#[],none⟩) rfl (fun K hK=>?_) AllReadyH.nil)
    ·have k1:k1.cell? ⟨B,1,none⟩=some (.slice (some ⟨mb+1,0,none⟩) 1 1):=hC1.bB.1.2 1 (by simp)
     have kl:=hC1.bB.1.1
     go_simp
     try go_wp2_with fail
     clear k1 kl
     have hk2:(fun (W:World)=>B<W.heap.size) _:=hC1.bB.1.1
     refine hK.out _ _ hk2 (fun _=>?_)
     clear hK K
     try simp only [Act.put,SL]
     refine rd 3 (⟨some 29,.buildSlice 64 2 #[(0,.const (Value.string {data:=#[97,110,110]})),(1,.const (Value.string {data:=#[98,111,98]}))],64,"l05_catalog.go:195",#[],none⟩) (fun K hK=>?_)
     go_simp
     try go_wp2_with fail
     have hb3:Below k1.heap.size k1 (k1.alloc (Obj.cells #[.string ⟨#[97,110,110]⟩,.string ⟨#[98,111,98]⟩] 9)):=(Below.refl _ _).alloc (Nat.le_refl _) _
     have hC3:=hC1.below hb3
     have hI3:=hI1.below hb3
     have hP3:=DocR.BlkW.new k1 [.string ⟨#[97,110,110]⟩,.string ⟨#[98,111,98]⟩] 9
     have hlsb:B<k1.heap.size:=hC1.bB.1.1
     have hgsb:g<k1.heap.size:=hC1.src.lt
     have hk3:(fun (W:World)=>B<W.heap.size) _:=hC3.bB.1.1
     refine hK.out _ _ hk3 (fun _=>?_)
     clear hK K
     try simp only [Act.put,SL]
     obtain ⟨sb,hsbe⟩:∃z,z=k1.heap.size:=⟨_,rfl⟩
     obtain ⟨k3,hk3e⟩:∃z,z=k1.alloc (Obj.cells #[.string ⟨#[97,110,110]⟩,.string ⟨#[98,111,98]⟩] 9):=⟨_,rfl⟩
     rw [←hsbe] at hP3 hlsb hgsb ⊢
     rw [←hk3e] at hC3 hP3 hk3 ⊢
     rw [←hk3e] at hI3
     clear hb3 hk3e hsbe
     refine rd 4 (⟨some 30,.call {callee:=Callee.value (.func 61),args:=#[.tmp 28,.tmp 29],argTypes:=#[94,64]},9,"l05_catalog.go:195",#[⟨2,.data⟩,⟨3,.data⟩],none⟩) (fun K hK=>?_)
     go_simp
     have hstr:Strs sb 2 100 k3:=⟨hP3.1.1,fun j hj=>by
      match j,hj with
      | 0,_=>exact ⟨_,hP3.1.2 0 (by simp),by decide⟩
      | 1,_=>exact ⟨_,hP3.1.2 1 (by simp),by decide⟩⟩
     go_at_call 61
     refine (pick_any ao len cap g sb 2 100 _ (by omega) (by omega) (by omega) hC3.src hstr).mono ?_
     rintro e q4 ⟨⟨T,rfl,hTs⟩,hS4,hg4⟩
     have hC4:=hC3.step hgl hmB hS4 hg4
     have hI4:=OwG.blkW_grown hI3 hg4 (by simp only [ne_eq,Option.some.injEq];omega)
     clear hstr
     try go_wp2_with fail
     have hk4:(fun (W:World)=>B<W.heap.size) _:=hC4.bB.1.1
     refine hK.out _ _ hk4 (fun _=>?_)
     clear hK K
     try simp only [Act.put,SL]
     refine rd 7 (⟨some 33,.call {callee:=Callee.value (.func 65),args:=#[.tmp 32,.const (Value.int IntKind.i64 4)],argTypes:=#[94,2]},2,"l05_catalog.go:195",#[⟨6,.data⟩,⟨4,.chain⟩],none⟩) (fun K hK=>?_)
     go_simp
     go_at_call 65
     refine (HN.out 4 _ (by omega) hC4.src).mono ?_
     rintro e q5 ⟨v5,rfl,lo5,-,hi5,hS5,hg5⟩
     have ht5:v5<4:=hi5 (by omega)
     obtain ⟨tt,rfl⟩:∃j:Nat,v5=(j:Int):=⟨v5.toNat,by omega⟩
     have htt4:tt<4:=by omega
     have htt4i:((tt:Nat):Int)<4:=by omega
     have hC5:=hC4.step hgl hmB hS5 hg5
     have hI5:=OwG.blkW_grown hI4 hg5 (by simp only [ne_eq,Option.some.injEq];omega)
     clear hi5 lo5 ht5
     try go_wp2_with fail
     have hk5:(fun (W:World)=>B<W.heap.size) _:=hC5.bB.1.1
     refine hK.out _ _ hk5 (fun _=>?_)
     clear hK K
     try simp only [Act.put,SL]
     refine tk 8 (⟨some 34,.indexAddr 101 (.tmp 31) (.tmp 33),0,"l05_catalog.go:195",#[⟨5,.data⟩,⟨7,.data⟩],none⟩) ?_
     exact TAIL.out sb ib tt T q5 ⟨hC5,hI5,hTs,htt4⟩
    ·go_simp
     try go_wp2_with fail
     have hb2:Below k1.heap.size k1 (k1.alloc (Obj.cells #[.string ⟨#[97,110,110]⟩,.string ⟨#[98,111,98]⟩] 9)):=(Below.refl _ _).alloc (Nat.le_refl _) _
     have hC2:=hC1.below hb2
     have hI2:=hI1.below hb2
     have hP2:=DocR.BlkW.new k1 [.string ⟨#[97,110,110]⟩,.string ⟨#[98,111,98]⟩] 9
     have hlsb:B<k1.heap.size:=hC1.bB.1.1
     have hgsb:g<k1.heap.size:=hC1.src.lt
     have hk2:(fun (W:World)=>B<W.heap.size) _:=hC2.bB.1.1
     refine hK.out _ _ hk2 (fun _=>?_)
     clear hK K
     try simp only [Act.put,SL]
     obtain ⟨sb,hsbe⟩:∃z,z=k1.heap.size:=⟨_,rfl⟩
     obtain ⟨k2,hk2e⟩:∃z,z=k1.alloc (Obj.cells #[.string ⟨#[97,110,110]⟩,.string ⟨#[98,111,98]⟩] 9):=⟨_,rfl⟩
     rw [←hsbe] at hP2 hlsb hgsb ⊢
     rw [←hk2e] at hC2 hP2 hk2 ⊢
     rw [←hk2e] at hI2
     clear hb2 hk2e hsbe
     refine wpAnyH_ready (rs:=[1,4]) (by kernel_rfl) (by simp) ?_
     refine AllReadyH.cons (o:=⟨some 27,.load 34 (.tmp 26),34,"l05_catalog.go:195",#[⟨0,.data⟩],none⟩) rfl (fun K hK=>?_) (AllReadyH.cons (o:=⟨some 30,.call {callee:=Callee.value (.func 61),args:=#[.tmp 28,.tmp 29],argTypes:=#[94,64]},9,"l05_catalog.go:195",#[⟨2,.data⟩,⟨3,.data⟩],none⟩) rfl (fun K hK=>?_) AllReadyH.nil)
     ·have k1:k2.cell? ⟨B,1,none⟩=some (.slice (some ⟨mb+1,0,none⟩) 1 1):=hC2.bB.1.2 1 (by simp)
      have kl:=hC2.bB.1.1
      go_simp
      try go_wp2_with fail
      clear k1 kl
      have hk3:(fun (W:World)=>B<W.heap.size) _:=hC2.bB.1.1
      refine hK.out _ _ hk3 (fun _=>?_)
      clear hK K
      try simp only [Act.put,SL]
      refine rd 4 (⟨some 30,.call {callee:=Callee.value (.func 61),args:=#[.tmp 28,.tmp 29],argTypes:=#[94,64]},9,"l05_catalog.go:195",#[⟨2,.data⟩,⟨3,.data⟩],none⟩) (fun K hK=>?_)
      go_simp
      have hstr:Strs sb 2 100 k2:=⟨hP2.1.1,fun j hj=>by
       match j,hj with
       | 0,_=>exact ⟨_,hP2.1.2 0 (by simp),by decide⟩
       | 1,_=>exact ⟨_,hP2.1.2 1 (by simp),by decide⟩⟩
      go_at_call 61
      refine (pick_any ao len cap g sb 2 100 _ (by omega) (by omega) (by omega) hC2.src hstr).mono ?_
      rintro e q4 ⟨⟨T,rfl,hTs⟩,hS4,hg4⟩
      have hC4:=hC2.step hgl hmB hS4 hg4
      have hI4:=OwG.blkW_grown hI2 hg4 (by simp only [ne_eq,Option.some.injEq];omega)
      clear hstr
      try go_wp2_with fail
      have hk4:(fun (W:World)=>B<W.heap.size) _:=hC4.bB.1.1
      refine hK.out _ _ hk4 (fun _=>?_)
      clear hK K
      try simp only [Act.put,SL]
      refine rd 7 (⟨some 33,.call {callee:=Callee.value (.func 65),args:=#[.tmp 32,.const (Value.int IntKind.i64 4)],argTypes:=#[94,2]},2,"l05_catalog.go:195",#[⟨6,.data⟩,⟨4,.chain⟩],none⟩) (fun K hK=>?_)
      go_simp
      go_at_call 65
      refine (HN.out 4 _ (by omega) hC4.src).mono ?_
      rintro e q5 ⟨v5,rfl,lo5,-,hi5,hS5,hg5⟩
      have ht5:v5<4:=hi5 (by omega)
      obtain ⟨tt,rfl⟩:∃j:Nat,v5=(j:Int):=⟨v5.toNat,by omega⟩
      have htt4:tt<4:=by omega
      have htt4i:((tt:Nat):Int)<4:=by omega
      have hC5:=hC4.step hgl hmB hS5 hg5
      have hI5:=OwG.blkW_grown hI4 hg5 (by simp only [ne_eq,Option.some.injEq];omega)
      clear hi5 lo5 ht5
      try go_wp2_with fail
      have hk5:(fun (W:World)=>B<W.heap.size) _:=hC5.bB.1.1
      refine hK.out _ _ hk5 (fun _=>?_)
      clear hK K
      try simp only [Act.put,SL]
      refine tk 8 (⟨some 34,.indexAddr 101 (.tmp 31) (.tmp 33),0,"l05_catalog.go:195",#[⟨5,.data⟩,⟨7,.data⟩],none⟩) ?_
      exact TAIL.out sb ib tt T q5 ⟨hC5,hI5,hTs,htt4⟩
     ·go_simp
      have hstr:Strs sb 2 100 k2:=⟨hP2.1.1,fun j hj=>by
       match j,hj with
       | 0,_=>exact ⟨_,hP2.1.2 0 (by simp),by decide⟩
       | 1,_=>exact ⟨_,hP2.1.2 1 (by simp),by decide⟩⟩
      go_at_call 61
      refine (pick_any ao len cap g sb 2 100 _ (by omega) (by omega) (by omega) hC2.src hstr).mono ?_
      rintro e q3 ⟨⟨T,rfl,hTs⟩,hS3,hg3⟩
      have hC3:=hC2.step hgl hmB hS3 hg3
      have hI3:=OwG.blkW_grown hI2 hg3 (by simp only [ne_eq,Option.some.injEq];omega)
      clear hstr
      try go_wp2_with fail
      have hk3:(fun (W:World)=>B<W.heap.size) _:=hC3.bB.1.1
      refine hK.out _ _ hk3 (fun _=>?_)
      clear hK K
      try simp only [Act.put,SL]
      refine wpAnyH_ready (rs:=[1,7]) (by kernel_rfl) (by simp) ?_
      refine AllReadyH.cons (o:=⟨some 27,.load 34 (.tmp 26),34,"l05_catalog.go:195",#[⟨0,.data⟩],none⟩) rfl (fun K hK=>?_) (AllReadyH.cons (o:=⟨some 33,.call {callee:=Callee.value (.func 65),args:=#[.tmp 32,.const (Value.int IntKind.i64 4)],argTypes:=#[94,2]},2,"l05_catalog.go:195",#[⟨6,.data⟩,⟨4,.chain⟩],none⟩) rfl (fun K hK=>?_) AllReadyH.nil)
      ·have k1:q3.cell? ⟨B,1,none⟩=some (.slice (some ⟨mb+1,0,none⟩) 1 1):=hC3.bB.1.2 1 (by simp)
       have kl:=hC3.bB.1.1
       go_simp
       try go_wp2_with fail
       clear k1 kl
       have hk4:(fun (W:World)=>B<W.heap.size) _:=hC3.bB.1.1
       refine hK.out _ _ hk4 (fun _=>?_)
       clear hK K
       try simp only [Act.put,SL]
       refine rd 7 (⟨some 33,.call {callee:=Callee.value (.func 65),args:=#[.tmp 32,.const (Value.int IntKind.i64 4)],argTypes:=#[94,2]},2,"l05_catalog.go:195",#[⟨6,.data⟩,⟨4,.chain⟩],none⟩) (fun K hK=>?_)
       go_simp
       go_at_call 65
       refine (HN.out 4 _ (by omega) hC3.src).mono ?_
       rintro e q5 ⟨v5,rfl,lo5,-,hi5,hS5,hg5⟩
       have ht5:v5<4:=hi5 (by omega)
       obtain ⟨tt,rfl⟩:∃j:Nat,v5=(j:Int):=⟨v5.toNat,by omega⟩
       have htt4:tt<4:=by omega
       have htt4i:((tt:Nat):Int)<4:=by omega
       have hC5:=hC3.step hgl hmB hS5 hg5
       have hI5:=OwG.blkW_grown hI3 hg5 (by simp only [ne_eq,Option.some.injEq];omega)
       clear hi5 lo5 ht5
       try go_wp2_with fail
       have hk5:(fun (W:World)=>B<W.heap.size) _:=hC5.bB.1.1
       refine hK.out _ _ hk5 (fun _=>?_)
       clear hK K
       try simp only [Act.put,SL]
       refine tk 8 (⟨some 34,.indexAddr 101 (.tmp 31) (.tmp 33),0,"l05_catalog.go:195",#[⟨5,.data⟩,⟨7,.data⟩],none⟩) ?_
       exact TAIL.out sb ib tt T q5 ⟨hC5,hI5,hTs,htt4⟩
      ·go_simp
       go_at_call 65
       refine (HN.out 4 _ (by omega) hC3.src).mono ?_
       rintro e q4 ⟨v4,rfl,lo4,-,hi4,hS4,hg4⟩
       have ht4:v4<4:=hi4 (by omega)
       obtain ⟨tt,rfl⟩:∃j:Nat,v4=(j:Int):=⟨v4.toNat,by omega⟩
       have htt4:tt<4:=by omega
       have htt4i:((tt:Nat):Int)<4:=by omega
       have hC4:=hC3.step hgl hmB hS4 hg4
       have hI4:=OwG.blkW_grown hI3 hg4 (by simp only [ne_eq,Option.some.injEq];omega)
       clear hi4 lo4 ht4
       try go_wp2_with fail
       have hk4:(fun (W:World)=>B<W.heap.size) _:=hC4.bB.1.1
       refine hK.out _ _ hk4 (fun _=>?_)
       clear hK K
       try simp only [Act.put,SL]
       refine tk 8 (⟨some 34,.indexAddr 101 (.tmp 31) (.tmp 33),0,"l05_catalog.go:195",#[⟨5,.data⟩,⟨7,.data⟩],none⟩) ?_
       refine wpAnyH_ready (rs:=[1,9]) (by kernel_rfl) (by simp) ?_
       refine AllReadyH.cons (o:=⟨some 27,.load 34 (.tmp 26),34,"l05_catalog.go:195",#[⟨0,.data⟩],none⟩) rfl (fun K hK=>?_) (AllReadyH.cons (o:=⟨some 35,.load 2 (.tmp 34),2,"l05_catalog.go:195",#[⟨8,.data⟩],none⟩) rfl (fun K hK=>?_) AllReadyH.nil)
       ·have k1:q4.cell? ⟨B,1,none⟩=some (.slice (some ⟨mb+1,0,none⟩) 1 1):=hC4.bB.1.2 1 (by simp)
        have kl:=hC4.bB.1.1
        go_simp
        try go_wp2_with fail
        clear k1 kl
        have hk5:(fun (W:World)=>B<W.heap.size) _:=hC4.bB.1.1
        refine hK.out _ _ hk5 (fun _=>?_)
        clear hK K
        try simp only [Act.put,SL]
        exact TAIL.out sb ib tt T q4 ⟨hC4,hI4,hTs,htt4⟩
       ·obtain ⟨Y,hY⟩:∃Y:Int,q4.cell? ⟨ib,tt,none⟩=some (.int .i64 Y):=by
         rcases (show tt=0∨tt=1∨tt=2∨tt=3 by omega) with rfl|rfl|rfl|rfl
         ·exact ⟨_,hI4.1.2 0 (by simp)⟩
         ·exact ⟨_,hI4.1.2 1 (by simp)⟩
         ·exact ⟨_,hI4.1.2 2 (by simp)⟩
         ·exact ⟨_,hI4.1.2 3 (by simp)⟩
        have hil:=hI4.1.1
        go_simp
        try go_wp2_with fail
        clear hY hil
        have hk5:(fun (W:World)=>B<W.heap.size) _:=hC4.bB.1.1
        refine hK.out _ _ hk5 (fun _=>?_)
        clear hK K
        try simp only [Act.put,SL]
        refine tk 10 (⟨some 36,.build 118 #[(0,.tmp 30),(1,.tmp 35)],118,"l05_catalog.go:195",#[⟨4,.data⟩,⟨9,.data⟩],none⟩) ?_
        refine wpAnyH_ready (rs:=[1,11]) (by kernel_rfl) (by simp) ?_
        refine AllReadyH.cons (o:=⟨some 27,.load 34 (.tmp 26),34,"l05_catalog.go:195",#[⟨0,.data⟩],none⟩) rfl (fun K hK=>?_) (AllReadyH.cons (o:=⟨some 37,.buildSlice 34 1 #[(0,.tmp 36)],34,"l05_catalog.go:195",#[⟨10,.data⟩],none⟩) rfl (fun K hK=>?_) AllReadyH.nil)
        ·have k1:q4.cell? ⟨B,1,none⟩=some (.slice (some ⟨mb+1,0,none⟩) 1 1):=hC4.bB.1.2 1 (by simp)
         have kl:=hC4.bB.1.1
         go_simp
         try go_wp2_with fail
         clear k1 kl
         have hk6:(fun (W:World)=>B<W.heap.size) _:=hC4.bB.1.1
         refine hK.out _ _ hk6 (fun _=>?_)
         clear hK K
         try simp only [Act.put,SL]
         refine rd 11 (⟨some 37,.buildSlice 34 1 #[(0,.tmp 36)],34,"l05_catalog.go:195",#[⟨10,.data⟩],none⟩) (fun K hK=>?_)
         go_simp
         try go_wp2_with fail
         have hb7:Below q4.heap.size q4 (q4.alloc (Obj.cells #[.string T,.int .i64 Y] 118)):=(Below.refl _ _).alloc (Nat.le_refl _) _
         have hC7:=hC4.below hb7
         have hP7:=DocR.BlkW.new q4 [.string T,.int .i64 Y] 118
         have hlnb:B<q4.heap.size:=hC4.bB.1.1
         have hgnb:g<q4.heap.size:=hC4.src.lt
         have hk7:(fun (W:World)=>B<W.heap.size) _:=hC7.bB.1.1
         refine hK.out _ _ hk7 (fun _=>?_)
         clear hK K
         try simp only [Act.put,SL]
         obtain ⟨nb,hnbe⟩:∃z,z=q4.heap.size:=⟨_,rfl⟩
         obtain ⟨k7,hk7e⟩:∃z,z=q4.alloc (Obj.cells #[.string T,.int .i64 Y] 118):=⟨_,rfl⟩
         rw [←hnbe] at hP7 hlnb hgnb ⊢
         rw [←hk7e] at hC7 hP7 hk7 ⊢
         clear hb7 hk7e hnbe
         refine rd 12 (⟨some 38,.call {callee:=Callee.builtin Builtin.append,args:=#[.tmp 27,.tmp 37],argTypes:=#[34,34]},34,"l05_catalog.go:195",#[⟨1,.data⟩,⟨11,.data⟩,⟨7,.chain⟩],none⟩) (fun K hK=>?_)
         have hold:∀b:Addr,(some ⟨mb+1,0,none⟩:Option Addr)=some b→∀j u,([.string ⟨#[97,110,110]⟩,.int .i64 3000]:List Value)[j]? = some u→k7.cell? (b.add j)=some u:=by
          intro b e j u hu
          cases e
          obtain ⟨_,h0|⟨b',o',e',hl',hc'⟩⟩:=hC7.crs
          ·cases h0
          ·cases e'
           have h2:=hc' 0 (by omega)
           rw [Addr.add_lit]
           match j,hu with
           | 0,hu=>simp at hu;subst hu;exact h2.1
           | 1,hu=>simp at hu;subst hu;exact h2.2
         have hnw:∀j u,([.string T,.int .i64 Y]:List Value)[j]? = some u→k7.cell? ((⟨nb,0,none⟩:Addr).add j)=some u:=by
          intro j u hu
          have hjl:=(List.getElem?_eq_some_iff.1 hu).1
          rw [Addr.add_lit,Nat.zero_add,hP7.1.2 j hjl]
          exact hu
         refine step_append_grows rfl _ _ 34 rfl 118 i0 (.agg #[.string ⟨#[]⟩,.int .i64 0]) 2 24 Tryz.underlying34 hi hz0 hz1 hz2 rfl gz2 (some ⟨mb+1,0,none⟩) 1 1 [.string ⟨#[97,110,110]⟩,.int .i64 3000] rfl (fun e=>by cases e) rfl hold ⟨nb,0,none⟩ 1 1 [.string T,.int .i64 Y] rfl rfl hnw (by intro u hu;simp at hu;rcases hu with rfl|rfl<;>rfl) gz3 gz4 gz5 ?_
         intro v' q8 hown hgrow
         have hb8:Below k7.heap.size k7 q8:=⟨hgrow.os,hgrow.tape,hgrow.output,hgrow.size,fun k hk=>hgrow.block k hk (by simp)⟩
         have hC8:=hC7.below hb8
         have hlW:B<k7.heap.size:=hC7.bB.1.1
         obtain ⟨go',gc,rfl,hmd⟩:=RowG.own_made (k:=2) (cells:=crC) (z:=Cr.zero) (xs:=[⟨⟨#[97,110,110]⟩,3000⟩,⟨T,Y⟩]) crC_len (by simpa [RowG.cellsAll,crC] using hown)
         try go_wp2_with fail
         clear hold hnw hgrow hb8
         have hk8:(fun (W:World)=>B<W.heap.size) _:=hC8.bB.1.1
         refine hK.out _ _ hk8 (fun _=>?_)
         clear hK K
         try simp only [Act.put,SL]
         refine tk 13 (⟨some 39,.fieldAddr 36 (.tmp 3) 1,0,"l05_catalog.go:195",#[⟨0,.phase⟩,⟨1,.phase⟩,⟨2,.phase⟩,⟨3,.phase⟩,⟨4,.phase⟩,⟨5,.phase⟩,⟨6,.phase⟩,⟨7,.phase⟩,⟨8,.phase⟩,⟨9,.phase⟩,⟨10,.phase⟩,⟨11,.phase⟩,⟨12,.phase⟩],none⟩) ?_
         refine rd 14 (⟨none,.store 34 (.tmp 39) (.tmp 38),0,"l05_catalog.go:195",#[⟨13,.data⟩,⟨12,.data⟩,⟨12,.chain⟩,⟨0,.phase⟩,⟨1,.phase⟩,⟨2,.phase⟩,⟨3,.phase⟩,⟨4,.phase⟩,⟨5,.phase⟩,⟨6,.phase⟩,⟨7,.phase⟩,⟨8,.phase⟩,⟨9,.phase⟩,⟨10,.phase⟩,⟨11,.phase⟩,⟨12,.phase⟩],none⟩) (fun K hK=>?_)
         have hnb:∀b o,go'=some ⟨b,o,none⟩→B<b∧some b≠some B:=fun b o e=>by
          rcases hmd.own with h0|⟨x,e',hx,_⟩
          ·cases h0
          ·rw [e] at e'
           cases e'
           exact ⟨by omega,by simp only [ne_eq,Option.some.injEq];omega⟩
         have k1:q8.cell? ⟨B,1,none⟩=some (.slice (some ⟨mb+1,0,none⟩) 1 1):=hC8.bB.1.2 1 (by simp)
         have z1:=hC8.bB.2 1 (by simp)
         have hml:=hC8.bB.1.1
         go_simp
         try go_wp2_with fail
         have hgr:=RowG.grown_set q8 B 1 (.slice go' 2 gc)
         have hmp:=hC8.mes.kept hgr (by omega) (by omega)
         have hcr:Crs go' 2 [⟨⟨#[97,110,110]⟩,3000⟩,⟨T,Y⟩] (q8.setCell ⟨B,1,none⟩ (.slice go' 2 gc)):=crs_of (hmd.rws.grown hgr (.inr (fun b o e=>(hnb b o e).2)))
         have hbB:=hC8.bB.set 1 (.slice go' 2 gc) (by simp)
         simp only [List.set_cons_zero,List.set_cons_succ] at hbB
         have hbR:=OwG.blkW_grown hC8.bR hgr (by simp only [ne_eq,Option.some.injEq];omega)
         have hsr:=hC8.src.kept hgr (fun k e=>by cases e;omega)
         have hgw:=hC8.grew.andThen hgr (fun k e=>by cases e;exact .inl (by omega))
         clear k1 z1
         have hk9:(fun (W:World)=>B<W.heap.size) _:=hbB.1.1
         refine hK.out _ _ hk9 (fun _=>?_)
         clear hK K
         try simp only [Act.put,SL]
         refine wpAnyH_done (by kernel_rfl) ?_ _
         generalize (q8.setCell ⟨B,1,none⟩ (.slice go' 2 gc))=WS at *
         have HF:=H_ (show CaOut ao len cap g w (.returned (.agg #[.slice (some ⟨mb,0,none⟩) plainM.length 4,.slice go' ([⟨⟨#[97,110,110]⟩,3000⟩,⟨T,Y⟩]:List Cr).length gc])) (StR.stL WS w.heap.size 0 [.slice (some ⟨mb,0,none⟩) 4 4,.slice go' 2 gc]) from by
          have hr:=StR.stL_grown w.heap.size [.slice (some ⟨mb,0,none⟩) 4 4,.slice go' 2 gc] 0 WS
          exact CS.fin (c:=⟨plainM,[⟨⟨#[97,110,110]⟩,3000⟩,⟨T,Y⟩]⟩) hsr hgw hgl (hmp.kept hr (by omega) (by omega)).mes (crs_keptG hcr hr (fun b o e=>by have:=(hnb b o e).1;omega)) (small_of hmp (by omega) (by simp) (by intro c hc;simp at hc;rcases hc with rfl|rfl;decide;exact hTs)) (fun W' hsz hk=>⟨((hmp.kept hr (by omega) (by omega)).kp (fun b h=>Nat.le_of_lt h.1) (by omega) hsz hk).mes,crs_kp (crs_keptG hcr hr (fun b o e=>by have:=(hnb b o e).1;omega)) hsz (fun b o e hl=>hk b (by have:=(hnb b o e).1;omega) hl)⟩))
         simp only [StR.stL,Nat.zero_add,Nat.reduceAdd] at HF
         have b0:WS.cell? ⟨B,0,none⟩=some (.slice (some ⟨mb,0,none⟩) 4 4):=hbB.1.2 0 (by simp)
         have b1:WS.cell? ⟨B,1,none⟩=some (.slice go' 2 gc):=hbB.1.2 1 (by simp)
         have bl:=hbB.1.1
         have r0:WS.cell? ⟨w.heap.size,0,none⟩=some (.slice none 0 0):=hbR.1.2 0 (by simp)
         have r1:WS.cell? ⟨w.heap.size,1,none⟩=some (.slice none 0 0):=hbR.1.2 1 (by simp)
         have rl:=hbR.1.1
         have f0:=hbR.2 0 (by simp)
         have f1:=hbR.2 1 (by simp)
         have hne:¬B=w.heap.size:=by omega
         go_wp2_with fail
         refine bodyPost_ret (v:=.agg #[.slice (some ⟨mb,0,none⟩) 4 4,.slice go' 2 gc]) (by simp [results,Tryz.results60,go_sem,r0,r1]) rfl HF.out
        ·go_simp
         try go_wp2_with fail
         have hb6:Below q4.heap.size q4 (q4.alloc (Obj.cells #[.string T,.int .i64 Y] 118)):=(Below.refl _ _).alloc (Nat.le_refl _) _
         have hC6:=hC4.below hb6
         have hP6:=DocR.BlkW.new q4 [.string T,.int .i64 Y] 118
         have hlnb:B<q4.heap.size:=hC4.bB.1.1
         have hgnb:g<q4.heap.size:=hC4.src.lt
         have hk6:(fun (W:World)=>B<W.heap.size) _:=hC6.bB.1.1
         refine hK.out _ _ hk6 (fun _=>?_)
         clear hK K
         try simp only [Act.put,SL]
         obtain ⟨nb,hnbe⟩:∃z,z=q4.heap.size:=⟨_,rfl⟩
         obtain ⟨k6,hk6e⟩:∃z,z=q4.alloc (Obj.cells #[.string T,.int .i64 Y] 118):=⟨_,rfl⟩
         rw [←hnbe] at hP6 hlnb hgnb ⊢
         rw [←hk6e] at hC6 hP6 hk6 ⊢
         clear hb6 hk6e hnbe
         refine rd 1 (⟨some 27,.load 34 (.tmp 26),34,"l05_catalog.go:195",#[⟨0,.data⟩],none⟩) (fun K hK=>?_)
         have k1:k6.cell? ⟨B,1,none⟩=some (.slice (some ⟨mb+1,0,none⟩) 1 1):=hC6.bB.1.2 1 (by simp)
         have kl:=hC6.bB.1.1
         go_simp
         try go_wp2_with fail
         clear k1 kl
         have hk7:(fun (W:World)=>B<W.heap.size) _:=hC6.bB.1.1
         refine hK.out _ _ hk7 (fun _=>?_)
         clear hK K
         try simp only [Act.put,SL]
         refine rd 12 (⟨some 38,.call {callee:=Callee.builtin Builtin.append,args:=#[.tmp 27,.tmp 37],argTypes:=#[34,34]},34,"l05_catalog.go:195",#[⟨1,.data⟩,⟨11,.data⟩,⟨7,.chain⟩],none⟩) (fun K hK=>?_)
         have hold:∀b:Addr,(some ⟨mb+1,0,none⟩:Option Addr)=some b→∀j u,([.string ⟨#[97,110,110]⟩,.int .i64 3000]:List Value)[j]? = some u→k6.cell? (b.add j)=some u:=by
          intro b e j u hu
          cases e
          obtain ⟨_,h0|⟨b',o',e',hl',hc'⟩⟩:=hC6.crs
          ·cases h0
          ·cases e'
           have h2:=hc' 0 (by omega)
           rw [Addr.add_lit]
           match j,hu with
           | 0,hu=>simp at hu;subst hu;exact h2.1
           | 1,hu=>simp at hu;subst hu;exact h2.2
         have hnw:∀j u,([.string T,.int .i64 Y]:List Value)[j]? = some u→k6.cell? ((⟨nb,0,none⟩:Addr).add j)=some u:=by
          intro j u hu
          have hjl:=(List.getElem?_eq_some_iff.1 hu).1
          rw [Addr.add_lit,Nat.zero_add,hP6.1.2 j hjl]
          exact hu
         refine step_append_grows rfl _ _ 34 rfl 118 i0 (.agg #[.string ⟨#[]⟩,.int .i64 0]) 2 24 Tryz.underlying34 hi hz0 hz1 hz2 rfl gz2 (some ⟨mb+1,0,none⟩) 1 1 [.string ⟨#[97,110,110]⟩,.int .i64 3000] rfl (fun e=>by cases e) rfl hold ⟨nb,0,none⟩ 1 1 [.string T,.int .i64 Y] rfl rfl hnw (by intro u hu;simp at hu;rcases hu with rfl|rfl<;>rfl) gz3 gz4 gz5 ?_
         intro v' q8 hown hgrow
         have hb8:Below k6.heap.size k6 q8:=⟨hgrow.os,hgrow.tape,hgrow.output,hgrow.size,fun k hk=>hgrow.block k hk (by simp)⟩
         have hC8:=hC6.below hb8
         have hlW:B<k6.heap.size:=hC6.bB.1.1
         obtain ⟨go',gc,rfl,hmd⟩:=RowG.own_made (k:=2) (cells:=crC) (z:=Cr.zero) (xs:=[⟨⟨#[97,110,110]⟩,3000⟩,⟨T,Y⟩]) crC_len (by simpa [RowG.cellsAll,crC] using hown)
         try go_wp2_with fail
         clear hold hnw hgrow hb8
         have hk8:(fun (W:World)=>B<W.heap.size) _:=hC8.bB.1.1
         refine hK.out _ _ hk8 (fun _=>?_)
         clear hK K
         try simp only [Act.put,SL]
         refine tk 13 (⟨some 39,.fieldAddr 36 (.tmp 3) 1,0,"l05_catalog.go:195",#[⟨0,.phase⟩,⟨1,.phase⟩,⟨2,.phase⟩,⟨3,.phase⟩,⟨4,.phase⟩,⟨5,.phase⟩,⟨6,.phase⟩,⟨7,.phase⟩,⟨8,.phase⟩,⟨9,.phase⟩,⟨10,.phase⟩,⟨11,.phase⟩,⟨12,.phase⟩],none⟩) ?_
         refine rd 14 (⟨none,.store 34 (.tmp 39) (.tmp 38),0,"l05_catalog.go:195",#[⟨13,.data⟩,⟨12,.data⟩,⟨12,.chain⟩,⟨0,.phase⟩,⟨1,.phase⟩,⟨2,.phase⟩,⟨3,.phase⟩,⟨4,.phase⟩,⟨5,.phase⟩,⟨6,.phase⟩,⟨7,.phase⟩,⟨8,.phase⟩,⟨9,.phase⟩,⟨10,.phase⟩,⟨11,.phase⟩,⟨12,.phase⟩],none⟩) (fun K hK=>?_)
         have hnb:∀b o,go'=some ⟨b,o,none⟩→B<b∧some b≠some B:=fun b o e=>by
          rcases hmd.own with h0|⟨x,e',hx,_⟩
          ·cases h0
          ·rw [e] at e'
           cases e'
           exact ⟨by omega,by simp only [ne_eq,Option.some.injEq];omega⟩
         have k1:q8.cell? ⟨B,1,none⟩=some (.slice (some ⟨mb+1,0,none⟩) 1 1):=hC8.bB.1.2 1 (by simp)
         have z1:=hC8.bB.2 1 (by simp)
         have hml:=hC8.bB.1.1
         go_simp
         try go_wp2_with fail
         have hgr:=RowG.grown_set q8 B 1 (.slice go' 2 gc)
         have hmp:=hC8.mes.kept hgr (by omega) (by omega)
         have hcr:Crs go' 2 [⟨⟨#[97,110,110]⟩,3000⟩,⟨T,Y⟩] (q8.setCell ⟨B,1,none⟩ (.slice go' 2 gc)):=crs_of (hmd.rws.grown hgr (.inr (fun b o e=>(hnb b o e).2)))
         have hbB:=hC8.bB.set 1 (.slice go' 2 gc) (by simp)
         simp only [List.set_cons_zero,List.set_cons_succ] at hbB
         have hbR:=OwG.blkW_grown hC8.bR hgr (by simp only [ne_eq,Option.some.injEq];omega)
         have hsr:=hC8.src.kept hgr (fun k e=>by cases e;omega)
         have hgw:=hC8.grew.andThen hgr (fun k e=>by cases e;exact .inl (by omega))
         clear k1 z1
         have hk9:(fun (W:World)=>B<W.heap.size) _:=hbB.1.1
         refine hK.out _ _ hk9 (fun _=>?_)
         clear hK K
         try simp only [Act.put,SL]
         refine wpAnyH_done (by kernel_rfl) ?_ _
         generalize (q8.setCell ⟨B,1,none⟩ (.slice go' 2 gc))=WS at *
         have HF:=H_ (show CaOut ao len cap g w (.returned (.agg #[.slice (some ⟨mb,0,none⟩) plainM.length 4,.slice go' ([⟨⟨#[97,110,110]⟩,3000⟩,⟨T,Y⟩]:List Cr).length gc])) (StR.stL WS w.heap.size 0 [.slice (some ⟨mb,0,none⟩) 4 4,.slice go' 2 gc]) from by
          have hr:=StR.stL_grown w.heap.size [.slice (some ⟨mb,0,none⟩) 4 4,.slice go' 2 gc] 0 WS
          exact CS.fin (c:=⟨plainM,[⟨⟨#[97,110,110]⟩,3000⟩,⟨T,Y⟩]⟩) hsr hgw hgl (hmp.kept hr (by omega) (by omega)).mes (crs_keptG hcr hr (fun b o e=>by have:=(hnb b o e).1;omega)) (small_of hmp (by omega) (by simp) (by intro c hc;simp at hc;rcases hc with rfl|rfl;decide;exact hTs)) (fun W' hsz hk=>⟨((hmp.kept hr (by omega) (by omega)).kp (fun b h=>Nat.le_of_lt h.1) (by omega) hsz hk).mes,crs_kp (crs_keptG hcr hr (fun b o e=>by have:=(hnb b o e).1;omega)) hsz (fun b o e hl=>hk b (by have:=(hnb b o e).1;omega) hl)⟩))
         simp only [StR.stL,Nat.zero_add,Nat.reduceAdd] at HF
         have b0:WS.cell? ⟨B,0,none⟩=some (.slice (some ⟨mb,0,none⟩) 4 4):=hbB.1.2 0 (by simp)
         have b1:WS.cell? ⟨B,1,none⟩=some (.slice go' 2 gc):=hbB.1.2 1 (by simp)
         have bl:=hbB.1.1
         have r0:WS.cell? ⟨w.heap.size,0,none⟩=some (.slice none 0 0):=hbR.1.2 0 (by simp)
         have r1:WS.cell? ⟨w.heap.size,1,none⟩=some (.slice none 0 0):=hbR.1.2 1 (by simp)
         have rl:=hbR.1.1
         have f0:=hbR.2 0 (by simp)
         have f1:=hbR.2 1 (by simp)
         have hne:¬B=w.heap.size:=by omega
         go_wp2_with fail
         refine bodyPost_ret (v:=.agg #[.slice (some ⟨mb,0,none⟩) 4 4,.slice go' 2 gc]) (by simp [results,Tryz.results60,go_sem,r0,r1]) rfl HF.out
  ·rintro sb ib tt T W ⟨hC,hI,hTs,htt4⟩
   clear hC0
   have htt4i:((tt:Nat):Int)<4:=by omega
   refine rd 9 (⟨some 35,.load 2 (.tmp 34),2,"l05_catalog.go:195",#[⟨8,.data⟩],none⟩) (fun K hK=>?_)
   obtain ⟨Y,hY⟩:∃Y:Int,W.cell? ⟨ib,tt,none⟩=some (.int .i64 Y):=by
    rcases (show tt=0∨tt=1∨tt=2∨tt=3 by omega) with rfl|rfl|rfl|rfl
    ·exact ⟨_,hI.1.2 0 (by simp)⟩
    ·exact ⟨_,hI.1.2 1 (by simp)⟩
    ·exact ⟨_,hI.1.2 2 (by simp)⟩
    ·exact ⟨_,hI.1.2 3 (by simp)⟩
   have hil:=hI.1.1
   go_simp
   try go_wp2_with fail
   clear hY hil
   have hk20:(fun (W:World)=>B<W.heap.size) _:=hC.bB.1.1
   refine hK.out _ _ hk20 (fun _=>?_)
   clear hK K
   try simp only [Act.put,SL]
   refine tk 10 (⟨some 36,.build 118 #[(0,.tmp 30),(1,.tmp 35)],118,"l05_catalog.go:195",#[⟨4,.data⟩,⟨9,.data⟩],none⟩) ?_
   refine rd 11 (⟨some 37,.buildSlice 34 1 #[(0,.tmp 36)],34,"l05_catalog.go:195",#[⟨10,.data⟩],none⟩) (fun K hK=>?_)
   go_simp
   try go_wp2_with fail
   have hb21:Below W.heap.size W (W.alloc (Obj.cells #[.string T,.int .i64 Y] 118)):=(Below.refl _ _).alloc (Nat.le_refl _) _
   have hC21:=hC.below hb21
   have hP21:=DocR.BlkW.new W [.string T,.int .i64 Y] 118
   have hlnb:B<W.heap.size:=hC.bB.1.1
   have hgnb:g<W.heap.size:=hC.src.lt
   have hk21:(fun (W:World)=>B<W.heap.size) _:=hC21.bB.1.1
   refine hK.out _ _ hk21 (fun _=>?_)
   clear hK K
   try simp only [Act.put,SL]
   obtain ⟨nb,hnbe⟩:∃z,z=W.heap.size:=⟨_,rfl⟩
   obtain ⟨k21,hk21e⟩:∃z,z=W.alloc (Obj.cells #[.string T,.int .i64 Y] 118):=⟨_,rfl⟩
   rw [←hnbe] at hP21 hlnb hgnb ⊢
   rw [←hk21e] at hC21 hP21 hk21 ⊢
   clear hb21 hk21e hnbe
   refine rd 12 (⟨some 38,.call {callee:=Callee.builtin Builtin.append,args:=#[.tmp 27,.tmp 37],argTypes:=#[34,34]},34,"l05_catalog.go:195",#[⟨1,.data⟩,⟨11,.data⟩,⟨7,.chain⟩],none⟩) (fun K hK=>?_)
   have hold:∀b:Addr,(some ⟨mb+1,0,none⟩:Option Addr)=some b→∀j u,([.string ⟨#[97,110,110]⟩,.int .i64 3000]:List Value)[j]? = some u→k21.cell? (b.add j)=some u:=by
    intro b e j u hu
    cases e
    obtain ⟨_,h0|⟨b',o',e',hl',hc'⟩⟩:=hC21.crs
    ·cases h0
    ·cases e'
     have h2:=hc' 0 (by omega)
     rw [Addr.add_lit]
     match j,hu with
     | 0,hu=>simp at hu;subst hu;exact h2.1
     | 1,hu=>simp at hu;subst hu;exact h2.2
   have hnw:∀j u,([.string T,.int .i64 Y]:List Value)[j]? = some u→k21.cell? ((⟨nb,0,none⟩:Addr).add j)=some u:=by
    intro j u hu
    have hjl:=(List.getElem?_eq_some_iff.1 hu).1
    rw [Addr.add_lit,Nat.zero_add,hP21.1.2 j hjl]
    exact hu
   refine step_append_grows rfl _ _ 34 rfl 118 i0 (.agg #[.string ⟨#[]⟩,.int .i64 0]) 2 24 Tryz.underlying34 hi hz0 hz1 hz2 rfl gz2 (some ⟨mb+1,0,none⟩) 1 1 [.string ⟨#[97,110,110]⟩,.int .i64 3000] rfl (fun e=>by cases e) rfl hold ⟨nb,0,none⟩ 1 1 [.string T,.int .i64 Y] rfl rfl hnw (by intro u hu;simp at hu;rcases hu with rfl|rfl<;>rfl) gz3 gz4 gz5 ?_
   intro v' q22 hown hgrow
   have hb22:Below k21.heap.size k21 q22:=⟨hgrow.os,hgrow.tape,hgrow.output,hgrow.size,fun k hk=>hgrow.block k hk (by simp)⟩
   have hC22:=hC21.below hb22
   have hlW:B<k21.heap.size:=hC21.bB.1.1
   obtain ⟨go',gc,rfl,hmd⟩:=RowG.own_made (k:=2) (cells:=crC) (z:=Cr.zero) (xs:=[⟨⟨#[97,110,110]⟩,3000⟩,⟨T,Y⟩]) crC_len (by simpa [RowG.cellsAll,crC] using hown)
   try go_wp2_with fail
   clear hold hnw hgrow hb22
   have hk22:(fun (W:World)=>B<W.heap.size) _:=hC22.bB.1.1
   refine hK.out _ _ hk22 (fun _=>?_)
   clear hK K
   try simp only [Act.put,SL]
   refine tk 13 (⟨some 39,.fieldAddr 36 (.tmp 3) 1,0,"l05_catalog.go:195",#[⟨0,.phase⟩,⟨1,.phase⟩,⟨2,.phase⟩,⟨3,.phase⟩,⟨4,.phase⟩,⟨5,.phase⟩,⟨6,.phase⟩,⟨7,.phase⟩,⟨8,.phase⟩,⟨9,.phase⟩,⟨10,.phase⟩,⟨11,.phase⟩,⟨12,.phase⟩],none⟩) ?_
   refine rd 14 (⟨none,.store 34 (.tmp 39) (.tmp 38),0,"l05_catalog.go:195",#[⟨13,.data⟩,⟨12,.data⟩,⟨12,.chain⟩,⟨0,.phase⟩,⟨1,.phase⟩,⟨2,.phase⟩,⟨3,.phase⟩,⟨4,.phase⟩,⟨5,.phase⟩,⟨6,.phase⟩,⟨7,.phase⟩,⟨8,.phase⟩,⟨9,.phase⟩,⟨10,.phase⟩,⟨11,.phase⟩,⟨12,.phase⟩],none⟩) (fun K hK=>?_)
   have hnb:∀b o,go'=some ⟨b,o,none⟩→B<b∧some b≠some B:=fun b o e=>by
    rcases hmd.own with h0|⟨x,e',hx,_⟩
    ·cases h0
    ·rw [e] at e'
     cases e'
     exact ⟨by omega,by simp only [ne_eq,Option.some.injEq];omega⟩
   have k1:q22.cell? ⟨B,1,none⟩=some (.slice (some ⟨mb+1,0,none⟩) 1 1):=hC22.bB.1.2 1 (by simp)
   have z1:=hC22.bB.2 1 (by simp)
   have hml:=hC22.bB.1.1
   go_simp
   try go_wp2_with fail
   have hgr:=RowG.grown_set q22 B 1 (.slice go' 2 gc)
   have hmp:=hC22.mes.kept hgr (by omega) (by omega)
   have hcr:Crs go' 2 [⟨⟨#[97,110,110]⟩,3000⟩,⟨T,Y⟩] (q22.setCell ⟨B,1,none⟩ (.slice go' 2 gc)):=crs_of (hmd.rws.grown hgr (.inr (fun b o e=>(hnb b o e).2)))
   have hbB:=hC22.bB.set 1 (.slice go' 2 gc) (by simp)
   simp only [List.set_cons_zero,List.set_cons_succ] at hbB
   have hbR:=OwG.blkW_grown hC22.bR hgr (by simp only [ne_eq,Option.some.injEq];omega)
   have hsr:=hC22.src.kept hgr (fun k e=>by cases e;omega)
   have hgw:=hC22.grew.andThen hgr (fun k e=>by cases e;exact .inl (by omega))
   clear k1 z1
   have hk23:(fun (W:World)=>B<W.heap.size) _:=hbB.1.1
   refine hK.out _ _ hk23 (fun _=>?_)
   clear hK K
   try simp only [Act.put,SL]
   refine wpAnyH_done (by kernel_rfl) ?_ _
   generalize (q22.setCell ⟨B,1,none⟩ (.slice go' 2 gc))=WS at *
   have HF:=H_ (show CaOut ao len cap g w (.returned (.agg #[.slice (some ⟨mb,0,none⟩) plainM.length 4,.slice go' ([⟨⟨#[97,110,110]⟩,3000⟩,⟨T,Y⟩]:List Cr).length gc])) (StR.stL WS w.heap.size 0 [.slice (some ⟨mb,0,none⟩) 4 4,.slice go' 2 gc]) from by
    have hr:=StR.stL_grown w.heap.size [.slice (some ⟨mb,0,none⟩) 4 4,.slice go' 2 gc] 0 WS
    exact CS.fin (c:=⟨plainM,[⟨⟨#[97,110,110]⟩,3000⟩,⟨T,Y⟩]⟩) hsr hgw hgl (hmp.kept hr (by omega) (by omega)).mes (crs_keptG hcr hr (fun b o e=>by have:=(hnb b o e).1;omega)) (small_of hmp (by omega) (by simp) (by intro c hc;simp at hc;rcases hc with rfl|rfl;decide;exact hTs)) (fun W' hsz hk=>⟨((hmp.kept hr (by omega) (by omega)).kp (fun b h=>Nat.le_of_lt h.1) (by omega) hsz hk).mes,crs_kp (crs_keptG hcr hr (fun b o e=>by have:=(hnb b o e).1;omega)) hsz (fun b o e hl=>hk b (by have:=(hnb b o e).1;omega) hl)⟩))
   simp only [StR.stL,Nat.zero_add,Nat.reduceAdd] at HF
   have b0:WS.cell? ⟨B,0,none⟩=some (.slice (some ⟨mb,0,none⟩) 4 4):=hbB.1.2 0 (by simp)
   have b1:WS.cell? ⟨B,1,none⟩=some (.slice go' 2 gc):=hbB.1.2 1 (by simp)
   have bl:=hbB.1.1
   have r0:WS.cell? ⟨w.heap.size,0,none⟩=some (.slice none 0 0):=hbR.1.2 0 (by simp)
   have r1:WS.cell? ⟨w.heap.size,1,none⟩=some (.slice none 0 0):=hbR.1.2 1 (by simp)
   have rl:=hbR.1.1
   have f0:=hbR.2 0 (by simp)
   have f1:=hbR.2 1 (by simp)
   have hne:¬B=w.heap.size:=by omega
   go_wp2_with fail
   refine bodyPost_ret (v:=.agg #[.slice (some ⟨mb,0,none⟩) 4 4,.slice go' 2 gc]) (by simp [results,Tryz.results60,go_sem,r0,r1]) rfl HF.out
 ·have HF:=H_ (show CaOut ao len cap g w (.returned (.agg #[.slice (some ⟨mb,0,none⟩) plainC.ms.length 4,.slice (some ⟨mb+1,0,none⟩) plainC.cs.length 1])) (StR.stL w3 w.heap.size 0 [.slice (some ⟨mb,0,none⟩) 4 4,.slice (some ⟨mb+1,0,none⟩) 1 1]) from by
   have hr:=StR.stL_grown w.heap.size [.slice (some ⟨mb,0,none⟩) 4 4,.slice (some ⟨mb+1,0,none⟩) 1 1] 0 w3
   exact CS.fin HC3.out.src HC3.out.grew hgl (HC3.out.mes.kept hr (by omega) (by omega)).mes (crs_kept HC3.out.crs hr (by omega)) (small_of HC3.out.mes (by omega) (by decide) (by decide)) (fun W' hsz hk=>⟨((HC3.out.mes.kept hr (by omega) (by omega)).kp (fun b h=>Nat.le_of_lt h.1) (by omega) hsz hk).mes,crs_kp (crs_kept HC3.out.crs hr (by omega)) hsz (fun b o e hl=>hk b (by cases e;omega) hl)⟩))
  simp only [StR.stL,Nat.zero_add,Nat.reduceAdd] at HF
  have b0:w3.cell? ⟨B,0,none⟩=some (.slice (some ⟨mb,0,none⟩) 4 4):=HC3.out.bB.1.2 0 (by simp)
  have b1:w3.cell? ⟨B,1,none⟩=some (.slice (some ⟨mb+1,0,none⟩) 1 1):=HC3.out.bB.1.2 1 (by simp)
  have bl:=HC3.out.bB.1.1
  have r0:w3.cell? ⟨w.heap.size,0,none⟩=some (.slice none 0 0):=HC3.out.bR.1.2 0 (by simp)
  have r1:w3.cell? ⟨w.heap.size,1,none⟩=some (.slice none 0 0):=HC3.out.bR.1.2 1 (by simp)
  have rl:=HC3.out.bR.1.1
  have f0:=HC3.out.bR.2 0 (by simp)
  have f1:=HC3.out.bR.2 1 (by simp)
  have hne:¬B=w.heap.size:=by omega
  go_wp2_with fail
  refine bodyPost_ret (v:=.agg #[.slice (some ⟨mb,0,none⟩) 4 4,.slice (some ⟨mb+1,0,none⟩) 1 1]) (by simp [results,Tryz.results60,go_sem,r0,r1]) rfl HF.out
end DrawR
end Go.Proofs.YtcilbmhkhllmjaaGreatDoor
