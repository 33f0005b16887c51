/-
  The model's way to add lines to others: spec.l09Add. The conditions: at most 400 lines to add to at most 100000 that rise, the numbers far from running over.
-/
import Derived.Deep.RegionHeld3
import Derived.Test.YtnceeaccbcfopaaGreatDoorT115
namespace Go.Proofs.YtnceeaccbcfopaaGreatDoor
open Go.ChangeShapes Go.WideShapes Go.ChangeAt Go.RowKit
set_option linter.unusedVariables false
namespace NetR
open LinR RowG LtR
open DocR (BlkW BlkW.new BlkW.below)
theorem HA_cells {ab aoff:Nat} {L:List N} {w:World} (h:Lis (some ⟨ab,aoff,none⟩) L w):∀W,Below w.heap.size w W→∀j u,(cellsAll N.cells L)[j]? = some u→W.cell? ((⟨ab,aoff,none⟩:Addr).add j)=some u:=by
 intro W hW j u hj
 have h1:=rws_sub (i:=0) (n:=L.length) N.len (h.below hW) j u (by simpa using hj)
 rw [Nat.zero_mul,Nat.add_zero] at h1
 exact h1
theorem i_in {x:Int} (h:-9223372036854775808≤x∧x≤9223372036854775807):IntKind.i64.wrap x=x:=IntWalk.i64_in _ ⟨by omega,by omega⟩
theorem own_nonnil {w:World} {base:Nat} {v:Value} {L:List N} (h:w.ownsRow base 209 2 v L.length (cellsAll N.cells L)) (hn:L.length≠0):OwnN w base v L:=⟨h,fun e=>by
 rcases h.2 with ⟨_,h1⟩|⟨g,cap,cur,hv,_⟩
 ·exact hn h1
 ·rw [hv] at e;cases e⟩
theorem put_pos (L:List N) (x:N):(put L x).length≠0:=by
 unfold put
 cases L with
 | nil=>simp [ins]
 | cons a l=>rw [ins];split<;>(try split)<;>simp
set_option maxRecDepth 100000 in
set_option maxHeartbeats 8000000 in
theorem sadd (ab aoff cap0:Nat) (L:List N) (bo:Option Addr) (capb:Nat) (es:List N) (s B:Int) (w:World) (hs:s=1∨s=-1) (hlen:es.length≤400) (hE:∀e∈es,-1000000000000000≤e.n∧e.n≤1000000000000000) (hr:Rise L) (hLl:L.length≤100000) (hB:0≤B∧B≤3000000000000000000) (hL:∀y∈L,-B≤y.n∧y.n≤B) (hA:Lis (some ⟨ab,aoff,none⟩) L w) (hI:Lis bo es w) :
 Calls Tryz.prog 154 #[.slice (some ⟨ab,aoff,none⟩) L.length cap0,.slice bo es.length capb,.int .i64 s] w fun e w'=>∃v,e=.returned v∧OwnN w' w.heap.size v (all L es s)∧Below w.heap.size w w':=by
 obtain ⟨i0,hi,hz0,hz1,hz2⟩:=info_parts infoN
 have HI:=H_ hI
 have HA:=H_ (HA_cells hA)
 have HE:=H_ hE
 have HSS:=H_ hs
 have HR:=H_ hr
 have HB:=H_ hB
 have HL0:=H_ hL
 have HLL:Hid (∀k,(all L (es.take k) s).length≤100400):=H_ (fun k=>by have h1:=all_len L (es.take k) s;have h2:=(List.take_sublist k es).length_le;omega)
 obtain ⟨len,hl⟩:∃len,len=es.length:=⟨_,rfl⟩
 have HEND:Hid (all L (es.take len) s=all L es s):=H_ (by rw [hl,List.take_length])
 rw [←hl] at hlen ⊢
 have HLn:=H_ hl
 obtain ⟨al0,hal0⟩:∃al0,al0=L.length:=⟨_,rfl⟩
 rw [←hal0] at hLl ⊢
 have HAL:=H_ hal0
 have HE0:=H_ (own_empty w w.heap.size 209 2 (Nat.le_refl _))
 clear hI hA hE hs hl hr hB hL hal0
 go_enter Tryz.func154,Tryz.ntmps154
 go_wp2_with (at_builtin;refine wpList_append_own _ rfl _ _ 120 rfl w.heap.size 209 i0 (.agg #[.string ⟨#[]⟩,.int .i64 0]) 2 24 Tryz.underlying120 hi hz0 hz1 hz2 rfl (by decide) _ _ _ rfl HE0.out ⟨ab,aoff,none⟩ al0 cap0 (cellsAll N.cells L) rfl ?l1 ?d1 ?d2 ?d3 ?d4 (by simp) ?_)
 case l1=>rw [cellsAll_len N.len];have:=HAL.out;omega
 case d1=>exact HA.out _ (al _ _)
 case d2=>exact lis_one _
 case d3=>unfold maxLen;omega
 case d4=>omega
 intro v1 w6 hown hgrow hne
 have HV1:Hid (OwnN w6 w.heap.size v1 L):=H_ ⟨by rw [←HAL.out];first|exact hown|simpa using hown,fun e=>by first|exact hne e|(have:=(hne.1 e).1;cases this)⟩
 have HB6:Hid (Below w.heap.size w w6):=H_ ((al w _).grown hgrow (by simp) (fun c hc=>by simp [Value.ownBlock] at hc;omega))
 clear hown hgrow hne HE0 HA
 go_wp2_with fail
 go_loopw [7,8] (fun v z wr=>∃k:Nat,k≤len∧z=.int .i64 k∧Hid (OwnN wr w.heap.size v (all L (es.take k) s))∧Hid (∀y∈all L (es.take k) s,-(B+k*1000000000000000)≤y.n∧y.n≤B+k*1000000000000000)∧Hid (Below w.heap.size w wr)) (fun v z _=>len-(intOf z).toNat)
 case atStart=>exact ⟨0,by omega,rfl,H_ (by simpa [all] using HV1.out),H_ (by simpa [all] using HL0.out),HB6⟩
 case round =>
  obtain ⟨k,hk,rfl,HV,HBD,HW⟩:=hrel
  by_cases hlt:k<len
  ·have hlt2:(k:Int)<(len:Int):=by omega
   have hkl:k<es.length:=by have:=HLn.out;omega
   obtain ⟨b0,off,rfl,hbl,c0,c1⟩:=Lis.at (HI.out.below HW.out) k hkl
   have hnb:=HE.out _ (getD_mem (z:=N.zero) es k hkl)
   have HM1:=H_ (all_more L es s k hkl)
   have HRk:=H_ (rise_all (es.take k) s HR.out)
   have HLk:=H_ (HLL.out k)
   have HB1:Hid (0≤B+(k:Int)*1000000000000000∧B+(k:Int)*1000000000000000≤3500000000000000000):=H_ (by have:=HB.out;omega)
   generalize all L (es.take k) s=L1 at *
   generalize es.getD k N.zero=X at *
   obtain ⟨xi,xn⟩:=X
   dsimp only at c0 c1 hnb
   obtain ⟨hm1,hm2⟩:=mul_w HSS.out hnb
   have HM2:Hid (all L (es.take (k+1)) s=put L1 ⟨xi,s*xn⟩):=HM1
   have HPB:=H_ (put_bd (x:=⟨xi,s*xn⟩) HB1.out.1 HBD.out (C:=1000000000000000) (by omega) hm2)
   obtain ⟨Y,hY⟩:∃Y,s*xn=Y:=⟨_,rfl⟩
   have hm3:IntKind.i64.wrap (s*xn)=Y:=by rw [i_in (by omega)];exact hY
   rw [hY] at HM2 HPB hm2
   have HYB:=H_ hm2
   have HS0:Hid (LB w b0 (off+k*2) xi xn wr.drew):=H_ ⟨HW.out.drew,hbl,c0,c1⟩
   obtain ⟨g,cap,rfl,hg1,hg2,hg3,hg4,hg5⟩:=HV.out.open
   have HG5:=H_ hg5
   have HX0:=H_ (BlkW.new wr.drew [.string xi,.int .i64 Y] 209)
   have HV0:=H_ (HV.out.below (w':=wr.drew.alloc (.cells #[.string xi,.int .i64 Y] 209)) (Below.trans (Below.refl _ _).drew (al wr.drew _)))
   have HW0:=H_ (HW.out.trans ((Below.trans (Below.refl _ _).drew (al wr.drew (.cells #[.string xi,.int .i64 Y] 209))).mono HW.out.size))
   obtain ⟨l1,hl1⟩:∃l1,l1=L1.length:=⟨_,rfl⟩
   rw [←hl1]
   have HL1:=H_ hl1
   clear hl1 hY hm1 HM1 hnb hm2 HV HW hg5
   go_wp2_with fail
   refine wp_region_held_drew (S:=(fun W=>Below w.heap.size w W∧b0<W.heap.size∧W.cell? ⟨b0,off+k*2,none⟩=some (.string xi)∧W.cell? ⟨b0,off+k*2+1,none⟩=some (.int .i64 xn))) (by kernel_rfl) HS0.out (fun hHeld=>?_)
   refine tk 0 (⟨some 22,.move (.tmp 1),120,"l09_ledger.go:24",#[],none⟩) ?_
   refine tk 1 (⟨some 23,.move (.tmp 8),3,"l09_ledger.go:24",#[],none⟩) ?_
   refine tk 2 (⟨some 24,.indexAddr 120 (.tmp 22) (.tmp 23),0,"l09_ledger.go:24",#[⟨0,.data⟩,⟨1,.data⟩],none⟩) ?_
   refine tk 3 (⟨some 25,.fieldAddr 209 (.tmp 24) 0,0,"l09_ledger.go:24",#[⟨2,.data⟩],none⟩) ?_
   refine tk 4 (⟨some 26,.load 9 (.tmp 25),9,"l09_ledger.go:24",#[⟨3,.data⟩],none⟩) ?_
   refine tk 5 (⟨some 27,.move (.tmp 2),2,"l09_ledger.go:24",#[],none⟩) ?_
   refine tk 6 (⟨some 28,.move (.tmp 1),120,"l09_ledger.go:24",#[],none⟩) ?_
   refine tk 7 (⟨some 29,.move (.tmp 8),3,"l09_ledger.go:24",#[],none⟩) ?_
   refine tk 8 (⟨some 30,.indexAddr 120 (.tmp 28) (.tmp 29),0,"l09_ledger.go:24",#[⟨6,.data⟩,⟨7,.data⟩],none⟩) ?_
   refine tk 9 (⟨some 31,.fieldAddr 209 (.tmp 30) 1,0,"l09_ledger.go:24",#[⟨8,.data⟩],none⟩) ?_
   refine tk 10 (⟨some 32,.load 2 (.tmp 31),2,"l09_ledger.go:24",#[⟨9,.data⟩],none⟩) ?_
   refine tk 11 (⟨some 33,.binOp BinOp.mul 2 (.tmp 27) (.tmp 32) 2,2,"l09_ledger.go:24",#[⟨5,.data⟩,⟨10,.data⟩],none⟩) ?_
   refine tk 12 (⟨some 34,.build 209 #[(0,.tmp 26),(1,.tmp 33)],209,"l09_ledger.go:24",#[⟨4,.data⟩,⟨11,.data⟩],none⟩) ?_
   refine rd 13 (⟨some 9,.alloc 209,0,"l09_ledger.go:24",#[],none⟩) (fun K hK=>?_)
   go_simp
   try go_wp2_with fail
   have hk1:=@LB.below w b0 (off+k*2) xi xn _ _ HS0.out (al _ (.cells #[.string ⟨#[]⟩,.int .i64 0] 209))
   refine hK.out _ _ hk1 (fun _=>?_)
   clear hK K
   try simp only [Act.put,SL]
   refine rd 14 (⟨none,.store 209 (.tmp 9) (.tmp 34),0,"l09_ledger.go:24",#[⟨13,.data⟩,⟨12,.data⟩,⟨0,.phase⟩,⟨1,.phase⟩,⟨2,.phase⟩,⟨3,.phase⟩,⟨4,.phase⟩,⟨5,.phase⟩,⟨6,.phase⟩,⟨7,.phase⟩,⟨8,.phase⟩,⟨9,.phase⟩,⟨10,.phase⟩,⟨11,.phase⟩,⟨12,.phase⟩,⟨13,.phase⟩],none⟩) (fun K hK=>?_)
   go_simp
   try go_wp2_with fail
   have hk2:=@LB.below w b0 (off+k*2) xi xn _ _ HS0.out (al _ (.cells #[.string xi,.int .i64 Y] 209))
   refine hK.out _ _ hk2 (fun _=>?_)
   clear hK K
   try simp only [Act.put,SL]
   refine wpAnyH_done (by kernel_rfl) ?_ _
   obtain ⟨W1,hW1⟩:∃W1,W1=(wr.alloc (.cells #[.string xi,.int .i64 Y] 209)).drew:=⟨_,rfl⟩
   have HX1:Hid (BlkW wr.heap.size [.string xi,.int .i64 Y] W1):=H_ (by rw [hW1];exact HX0.out)
   have HV1:Hid (OwnN W1 w.heap.size (.slice (some ⟨g,0,none⟩) L1.length cap) L1):=H_ (by rw [hW1];exact HV0.out)
   have HW1:Hid (Below w.heap.size w W1):=H_ (by rw [hW1];exact HW0.out)
   have HG1:Hid (Lis (some ⟨g,0,none⟩) L1 W1):=H_ (by rw [hW1];exact HG5.out.below (Below.trans (Below.refl _ _).drew (al wr.drew _)))
   have hwl:=HX1.out.1.1
   have x0:W1.cell? ⟨wr.heap.size,0,none⟩=some (.string xi):=HX1.out.1.2 0 (by simp)
   have x1:W1.cell? ⟨wr.heap.size,1,none⟩=some (.int .i64 Y):=HX1.out.1.2 1 (by simp)
   have HC:=H_ (sline g 0 cap L1 xi Y W1 (by have:=HLk.out;omega) (by have:=HL1.out;omega) hg2 HG1.out)
   rw [←HL1.out] at HC
   have HGX:Hid (g<wr.heap.size∧w.heap.size≤wr.heap.size):=H_ ⟨hg4,by have:=HS0.out.1.size;simpa using this⟩
   rw [←hW1]
   clear hW1 HX0 HV0 HW0 HS0 HG5 hk1 hk2
   generalize wr.heap.size=wx at *
   clear c0 c1 hbl
   go_wp2_with fail
   refine HC.out.mono ?_
   rintro e w2 (⟨hf,rfl,hb⟩|⟨hf,⟨v,rfl,ho⟩,hb⟩)
   ·have HF:=H_ hf
    have HX2:=H_ (HX1.out.below hb)
    have HV2:=H_ (HV1.out.below hb)
    have HW2:=H_ (HW1.out.trans (hb.mono HW1.out.size))
    rw [←HL1.out]
    have hl1b:l1≤100400:=by have:=HLk.out;have:=HL1.out;omega
    clear hf hb x0 x1 hwl HX1 HV1 HW1 HG1 HC
    go_wp2_with fail
    go_loopw [12] (fun z wq=>∃k2:Nat,k2≤l1∧z=.int .i64 k2∧Hid (wq.ownsRow w.heap.size 209 2 (.slice (some ⟨g,0,none⟩) l1 cap) l1 (cellsAll N.cells (mix L1 ⟨xi,Y⟩ k2)))∧Hid (BlkW wx [.string xi,.int .i64 Y] wq)∧Hid (Below w.heap.size w wq)) (fun z _=>l1-(intOf z).toNat)
    case atStart=>exact ⟨0,by omega,rfl,H_ (by have h:=HV2.out.1;rw [←HL1.out] at h;simpa [mix] using h),HX2,HW2⟩
    case round =>
     obtain ⟨wq,hwq⟩:∃wq,wq=wr:=⟨_,rfl⟩
     subst hwq
     obtain ⟨k2,hk2,rfl,HO,HX,HW⟩:=hrel
     clear HX2 HV2 HW2
     have hwl:=HX.out.1.1
     have x0:wq.cell? ⟨wx,0,none⟩=some (.string xi):=HX.out.1.2 0 (by simp)
     by_cases hq:k2<l1
     ·have hq2:(k2:Int)<(l1:Int):=by omega
      have hql:k2<L1.length:=by have:=HL1.out;omega
      have HMM:=H_ (mix_more L1 ⟨xi,Y⟩ k2 hql)
      have HMA:=H_ (mix_at L1 ⟨xi,Y⟩ k2 hql)
      have HML:=H_ (mix_len L1 ⟨xi,Y⟩ k2)
      have HSS2:=H_ (set_self (mix L1 ⟨xi,Y⟩ k2) k2 (by rw [mix_len];exact hql))
      have HCS:=H_ (fun m=>cells_set (mix L1 ⟨xi,Y⟩ k2) k2 m (by rw [mix_len];exact hql))
      have hyb:=HBD.out _ (getD_mem (z:=N.zero) L1 k2 hql)
      have HO':Hid (wq.ownsRow w.heap.size 209 2 (.slice (some ⟨g,0,none⟩) (mix L1 ⟨xi,Y⟩ k2).length cap) (mix L1 ⟨xi,Y⟩ k2).length (cellsAll N.cells (mix L1 ⟨xi,Y⟩ k2))):=H_ (by rw [mix_len,←HL1.out];exact HO.out)
      have HPT:=H_ (lis_pt HO'.out)
      obtain ⟨ao,cp,e1,hmm⟩:=own_made (z:=N.zero) N.len HO'.out
      simp only [Value.slice.injEq] at e1
      obtain ⟨rfl,_,rfl⟩:=e1
      obtain ⟨hgl,d0,d1⟩:=lis_two hmm.rws k2 (by rw [mix_len];exact hql)
      have hfz:=HPT.out.free (k2*2+1) (by rw [mix_len];omega)
      rw [HMA.out,Nat.zero_add] at d0 d1
      rw [HMA.out] at HSS2 HCS
      generalize L1.getD k2 N.zero=Z at *
      obtain ⟨yi,yn⟩:=Z
      dsimp only at d0 d1 hyb HSS2 HCS
      clear HO' hmm HMA
      by_cases he:yi=xi
      ·have he2:=he.symm
       subst he2
       have HN:Hid (mix L1 ⟨xi,Y⟩ (k2+1)=(mix L1 ⟨xi,Y⟩ k2).set k2 ⟨xi,yn+Y⟩):=H_ (by rw [HMM.out];unfold upd;rw [if_pos rfl])
       have he3:(xi.toList==xi.toList)=true:=by simp
       have hwz:IntKind.i64.wrap (yn+Y)=yn+Y:=i_in (by have:=HB1.out;have:=HYB.out;omega)
       have hcl:k2*2+1<(cellsAll N.cells (mix L1 ⟨xi,Y⟩ k2)).length:=by rw [cellsAll_len N.len,mix_len];omega
       have HON:=H_ (fun (W:World) (h:W.ownsRow w.heap.size 209 2 (.slice (some ⟨g,0,none⟩) l1 cap) l1 (cellsAll N.cells (mix L1 ⟨xi,Y⟩ k2)))=>own_row_set (j:=k2*2+1) (u:=.int .i64 (yn+Y)) h hcl)
       rw [HCS.out (yn+Y),←HN.out] at HON
       clear HN HCS HSS2 HMM hcl HML hyb he
       generalize mix L1 ⟨xi,Y⟩ k2=M2 at *
       go_wp2_with fail
       go_quiet (fail)
       obtain ⟨W3,hW3⟩:∃W3,W3=wq.drewN nq:=⟨_,rfl⟩
       rw [←hW3]
       have HD3:Hid (Below wq.heap.size wq W3):=H_ (by rw [hW3];exact bdn (Below.refl _ _) _)
       clear hW3
       have HO3:=H_ (own_below HO.out HD3.out)
       have HX3:=H_ (HX.out.below HD3.out)
       have HW3:=H_ (HW.out.trans (HD3.out.mono HW.out.size))
       have p1:W3.cell? ⟨g,k2*2+1,none⟩=some (.int .i64 yn):=(HD3.out.cell (p:=⟨g,k2*2+1,none⟩) hgl).trans d1
       have pf:W3.frozen? ⟨g,k2*2+1,none⟩=false:=(World.frozen?_of_block (a:=⟨g,k2*2+1,none⟩) (HD3.out.block g hgl)).trans hfz
       have hgl3:g<W3.heap.size:=by have:=HD3.out.size;omega
       have HS3:Hid (g<W3.drew.heap.size∧wx<W3.drew.heap.size∧W3.drew.cell? ⟨wx,1,none⟩=some (.int .i64 Y)):=H_ ⟨hgl3,HX3.out.1.1,HX3.out.1.2 1 (by simp)⟩
       have HSC:Hid ((W3.drew.setCell ⟨g,k2*2+1,none⟩ (.int .i64 (yn+Y))).cell? ⟨wx,1,none⟩=some (.int .i64 Y)):=H_ ((DocR.BlkW.other (HX3.out.below (Below.refl _ _).drew) g (k2*2+1) (.int .i64 (yn+Y)) (by have:=HGX.out;omega)).1.2 1 (by simp))
       clear HO HX HW d0 d1 hgl hfz x0 hwl
       go_wp2_with fail
       refine wp_region_held_drew (S:=(fun W=>g<W.heap.size∧wx<W.heap.size∧W.cell? ⟨wx,1,none⟩=some (.int .i64 Y))) (by kernel_rfl) HS3.out (fun hHeld=>?_)
       refine tk 0 (⟨some 57,.move (.tmp 7),120,"l09_ledger.go:32",#[],none⟩) ?_
       refine tk 1 (⟨some 58,.move (.tmp 12),3,"l09_ledger.go:32",#[],none⟩) ?_
       refine tk 2 (⟨some 59,.move (.tmp 7),120,"l09_ledger.go:32",#[],none⟩) ?_
       refine tk 3 (⟨some 60,.move (.tmp 12),3,"l09_ledger.go:32",#[],none⟩) ?_
       refine tk 4 (⟨some 61,.indexAddr 120 (.tmp 59) (.tmp 60),0,"l09_ledger.go:32",#[⟨2,.data⟩,⟨3,.data⟩],none⟩) ?_
       refine tk 5 (⟨some 62,.fieldAddr 209 (.tmp 61) 1,0,"l09_ledger.go:32",#[⟨4,.data⟩],none⟩) ?_
       refine tk 7 (⟨some 64,.fieldAddr 209 (.tmp 9) 1,0,"l09_ledger.go:32",#[],none⟩) ?_
       refine tk 8 (⟨some 65,.load 2 (.tmp 64),2,"l09_ledger.go:32",#[⟨7,.data⟩],none⟩) ?_
       refine rd 6 (⟨some 63,.load 2 (.tmp 62),2,"l09_ledger.go:32",#[⟨5,.data⟩],none⟩) (fun K hK=>?_)
       go_simp
       try go_wp2_with fail
       refine hK.out _ _ HS3.out (fun _=>?_)
       clear hK K
       try simp only [Act.put,SL]
       refine tk 9 (⟨some 66,.binOp BinOp.add 2 (.tmp 63) (.tmp 65) 2,2,"l09_ledger.go:32",#[⟨6,.data⟩,⟨8,.data⟩],none⟩) ?_
       refine tk 10 (⟨some 67,.indexAddr 120 (.tmp 57) (.tmp 58),0,"l09_ledger.go:32",#[⟨0,.data⟩,⟨1,.data⟩,⟨0,.phase⟩,⟨1,.phase⟩,⟨2,.phase⟩,⟨3,.phase⟩,⟨4,.phase⟩,⟨5,.phase⟩,⟨6,.phase⟩,⟨7,.phase⟩,⟨8,.phase⟩,⟨9,.phase⟩],none⟩) ?_
       refine tk 11 (⟨some 68,.fieldAddr 209 (.tmp 67) 1,0,"l09_ledger.go:32",#[⟨10,.data⟩,⟨0,.phase⟩,⟨1,.phase⟩,⟨2,.phase⟩,⟨3,.phase⟩,⟨4,.phase⟩,⟨5,.phase⟩,⟨6,.phase⟩,⟨7,.phase⟩,⟨8,.phase⟩,⟨9,.phase⟩],none⟩) ?_
       refine rd 12 (⟨none,.store 2 (.tmp 68) (.tmp 66),0,"l09_ledger.go:32",#[⟨11,.data⟩,⟨9,.data⟩,⟨0,.phase⟩,⟨1,.phase⟩,⟨2,.phase⟩,⟨3,.phase⟩,⟨4,.phase⟩,⟨5,.phase⟩,⟨6,.phase⟩,⟨7,.phase⟩,⟨8,.phase⟩,⟨9,.phase⟩],none⟩) (fun K hK=>?_)
       go_simp
       try go_wp2_with fail
       have hk3:g<(W3.drew.setCell ⟨g,k2*2+1,none⟩ (.int .i64 (yn+Y))).heap.size∧wx<(W3.drew.setCell ⟨g,k2*2+1,none⟩ (.int .i64 (yn+Y))).heap.size∧(W3.drew.setCell ⟨g,k2*2+1,none⟩ (.int .i64 (yn+Y))).cell? ⟨wx,1,none⟩=some (.int .i64 Y):=⟨by simpa using hgl3,by simpa using HX3.out.1.1,HSC.out⟩
       refine hK.out _ _ hk3 (fun _=>?_)
       clear hK K
       try simp only [Act.put,SL]
       refine wpAnyH_done (by kernel_rfl) ?_ _
       obtain ⟨W5,hW5⟩:∃W5,W5=(W3.setCell ⟨g,k2*2+1,none⟩ (.int .i64 (yn+Y))).drew:=⟨_,rfl⟩
       have HO5:Hid (W5.ownsRow w.heap.size 209 2 (.slice (some ⟨g,0,none⟩) l1 cap) l1 (cellsAll N.cells (mix L1 ⟨xi,Y⟩ (k2+1)))):=H_ (by rw [hW5];exact HON.out _ (own_drew HO3.out))
       have HX5:Hid (BlkW wx [.string xi,.int .i64 Y] W5):=H_ (by rw [hW5];exact DocR.BlkW.other (HX3.out.below (Below.refl _ _).drew) g _ _ (by have:=HGX.out;omega))
       have HW5:Hid (Below w.heap.size w W5):=H_ (by rw [hW5];exact HW3.out.drew.setCell (by have:=HGX.out;omega) _)
       rw [←hW5]
       clear hW5 p1 pf hgl3 HS3 HO3 HX3 HW3
       go_wp2_with fail
       go_roundw
       case rel=>exact ⟨k2+1,by omega,by go_num,HO5,HX5,HW5⟩
       case measure=>simp [intOf];omega
      ·have he3:(yi.toList==xi.toList)=false:=by simpa using fun e=>he (toList_inj e)
       have HN:Hid (mix L1 ⟨xi,Y⟩ (k2+1)=mix L1 ⟨xi,Y⟩ k2):=H_ (by rw [HMM.out];unfold upd;rw [if_neg he];exact HSS2.out)
       go_wp2_with fail
       go_quiet (fail)
       obtain ⟨W3,hW3⟩:∃W3,W3=wq.drewN nq:=⟨_,rfl⟩
       rw [←hW3]
       have HD3:Hid (Below wq.heap.size wq W3):=H_ (by rw [hW3];exact bdn (Below.refl _ _) _)
       clear hW3
       have HO3:=H_ (own_below HO.out HD3.out)
       have HX3:=H_ (HX.out.below HD3.out)
       have HW3:=H_ (HW.out.trans (HD3.out.mono HW.out.size))
       go_wp2_with fail
       go_roundw
       case rel=>exact ⟨k2+1,by omega,by go_num,H_ (by rw [HN.out];exact HO3.out),HX3,HW3⟩
       case measure=>simp [intOf];omega
     ·have hq2:¬(k2:Int)<(l1:Int):=by omega
      obtain rfl:k2=l1:=by omega
      have HEM:=H_ (mix_end (x:=⟨xi,Y⟩) HRk.out HF.out)
      have HO9:Hid (OwnN wq w.heap.size (.slice (some ⟨g,0,none⟩) k2 cap) (put L1 ⟨xi,Y⟩)):=H_ (by
       have h:=HO.out
       have e:k2=(put L1 ⟨xi,Y⟩).length:=by rw [←HEM.out,mix_len];exact HL1.out
       have e2:mix L1 ⟨xi,Y⟩ k2=put L1 ⟨xi,Y⟩:=by rw [HL1.out];exact HEM.out
       rw [e2] at h
       exact ⟨by rw [←e];exact h,fun e=>by cases e⟩)
      go_wp2_with fail
      go_roundw
      case rel=>exact ⟨k+1,by omega,by go_num,H_ (by rw [HM2.out];exact HO9.out),H_ (by rw [HM2.out];intro y hy;have:=HPB.out y hy;omega),HW⟩
      case measure=>simp [intOf];omega
   ·have HV2:Hid (OwnN w2 w.heap.size v (put L1 ⟨xi,Y⟩)):=H_ (own_nonnil (own_low ho HW1.out.size) (put_pos _ _))
    have HW2:=H_ (HW1.out.trans (hb.mono HW1.out.size))
    clear hf ho hb
    go_wp2_with fail
    go_roundw
    case rel=>exact ⟨k+1,by omega,by go_num,H_ (by rw [HM2.out];exact HV2.out),H_ (by rw [HM2.out];intro y hy;have:=HPB.out y hy;omega),HW2⟩
    case measure=>simp [intOf];omega
  ·have hlt2:¬(k:Int)<(len:Int):=by omega
   obtain rfl:k=len:=by omega
   rw [HEND.out] at HV
   go_wp2_with fail
   go_ret
   exact ⟨_,rfl,HV.out,HW.out⟩
end NetR
end Go.Proofs.YtnceeaccbcfopaaGreatDoor
