/-
  The model's way to add lines to others: spec.l09Add.
  The program's nets: whether one runs beyond, and its lines.
  The model's and the program's Less: both hand back the same lines.
  What a right ledger is: documents counted and added by account and month.
  Periods as keys of a map.
  The conditions stand in what each theorem says.
-/
import Derived.Deep.RegionHeld3
import Derived.DeepKeys4
import Derived.Maps.OwnSet
import Derived.Test.YtnceeaccbcfopaaGreatDoorT25
set_option maxRecDepth 100000
set_option maxHeartbeats 16000000
namespace Go.Proofs.YtnceeaccbcfopaaGreatDoor
open Go.ChangeShapes Go.WideShapes Go.ChangeAt Go.RowKit
set_option linter.unusedVariables false
namespace NetR
open LinR RowG LtR
open DocR (BlkW BlkW.new BlkW.below)
theorem HA_cells {ab aoff:Nat} {L:List N} {w:World} (h:Lis (some ⟨ab,aoff,none⟩) L w):∀W,Below w.heap.size w W→∀j u,(cellsAll N.cells L)[j]? = some u→W.cell? ((⟨ab,aoff,none⟩:Addr).add j)=some u:=by
 intro W hW j u hj
 have h1:=rws_sub (i:=0) (n:=L.length) N.len (h.below hW) j u (by simpa using hj)
 rw [Nat.zero_mul,Nat.add_zero] at h1
 exact h1
theorem i_in {x:Int} (h:-9223372036854775808≤x∧x≤9223372036854775807):IntKind.i64.wrap x=x:=IntWalk.i64_in _ ⟨by omega,by omega⟩
theorem own_nonnil {w:World} {base:Nat} {v:Value} {L:List N} (h:w.ownsRow base 209 2 v L.length (cellsAll N.cells L)) (hn:L.length≠0):OwnN w base v L:=⟨h,fun e=>by
 rcases h.2 with ⟨_,h1⟩|⟨g,cap,cur,hv,_⟩
 ·exact hn h1
 ·rw [hv] at e;cases e⟩
theorem put_pos (L:List N) (x:N):(put L x).length≠0:=by
 unfold put
 cases L with
 | nil=>simp [ins]
 | cons a l=>rw [ins];split<;>(try split)<;>simp
theorem sadd (ab aoff cap0:Nat) (L:List N) (bo:Option Addr) (capb:Nat) (es:List N) (s B:Int) (w:World) (hs:s=1∨s=-1) (hlen:es.length≤400) (hE:∀e∈es,-1000000000000000≤e.n∧e.n≤1000000000000000) (hr:Rise L) (hLl:L.length≤100000) (hB:0≤B∧B≤3000000000000000000) (hL:∀y∈L,-B≤y.n∧y.n≤B) (hA:Lis (some ⟨ab,aoff,none⟩) L w) (hI:Lis bo es w) :
 Calls Tryz.prog 154 #[.slice (some ⟨ab,aoff,none⟩) L.length cap0,.slice bo es.length capb,.int .i64 s] w fun e w'=>∃v,e=.returned v∧OwnN w' w.heap.size v (all L es s)∧Below w.heap.size w w':=by
 obtain ⟨i0,hi,hz0,hz1,hz2⟩:=info_parts infoN
 have HI:=H_ hI
 have HA:=H_ (HA_cells hA)
 have HE:=H_ hE
 have HSS:=H_ hs
 have HR:=H_ hr
 have HB:=H_ hB
 have HL0:=H_ hL
 have HLL:Hid (∀k,(all L (es.take k) s).length≤100400):=H_ (fun k=>by have h1:=all_len L (es.take k) s;have h2:=(List.take_sublist k es).length_le;omega)
 obtain ⟨len,hl⟩:∃len,len=es.length:=⟨_,rfl⟩
 have HEND:Hid (all L (es.take len) s=all L es s):=H_ (by rw [hl,List.take_length])
 rw [←hl] at hlen ⊢
 have HLn:=H_ hl
 obtain ⟨al0,hal0⟩:∃al0,al0=L.length:=⟨_,rfl⟩
 rw [←hal0] at hLl ⊢
 have HAL:=H_ hal0
 have HE0:=H_ (own_empty w w.heap.size 209 2 (Nat.le_refl _))
 clear hI hA hE hs hl hr hB hL hal0
 go_enter Tryz.func154,Tryz.ntmps154
 go_wp2_with (at_builtin;refine wpList_append_own _ rfl _ _ 120 rfl w.heap.size 209 i0 (.agg #[.string ⟨#[]⟩,.int .i64 0]) 2 24 Tryz.underlying120 hi hz0 hz1 hz2 rfl (by decide) _ _ _ rfl HE0.out ⟨ab,aoff,none⟩ al0 cap0 (cellsAll N.cells L) rfl ?l1 ?d1 ?d2 ?d3 ?d4 (by simp) ?_)
 case l1=>rw [cellsAll_len N.len];have:=HAL.out;omega
 case d1=>exact HA.out _ (al _ _)
 case d2=>exact lis_one _
 case d3=>unfold maxLen;omega
 case d4=>omega
 intro v1 w6 hown hgrow hne
 have HV1:Hid (OwnN w6 w.heap.size v1 L):=H_ ⟨by rw [←HAL.out];first|exact hown|simpa using hown,fun e=>by first|exact hne e|(have:=(hne.1 e).1;cases this)⟩
 have HB6:Hid (Below w.heap.size w w6):=H_ ((al w _).grown hgrow (by simp) (fun c hc=>by simp [Value.ownBlock] at hc;omega))
 clear hown hgrow hne HE0 HA
 go_wp2_with fail
 go_loopw [7,8] (fun v z wr=>∃k:Nat,k≤len∧z=.int .i64 k∧Hid (OwnN wr w.heap.size v (all L (es.take k) s))∧Hid (∀y∈all L (es.take k) s,-(B+k*1000000000000000)≤y.n∧y.n≤B+k*1000000000000000)∧Hid (Below w.heap.size w wr)) (fun v z _=>len-(intOf z).toNat)
 case atStart=>exact ⟨0,by omega,rfl,H_ (by simpa [all] using HV1.out),H_ (by simpa [all] using HL0.out),HB6⟩
 case round =>
  obtain ⟨k,hk,rfl,HV,HBD,HW⟩:=hrel
  by_cases hlt:k<len
  ·have hlt2:(k:Int)<(len:Int):=by omega
   have hkl:k<es.length:=by have:=HLn.out;omega
   obtain ⟨b0,off,rfl,hbl,c0,c1⟩:=Lis.at (HI.out.below HW.out) k hkl
   have hnb:=HE.out _ (getD_mem (z:=N.zero) es k hkl)
   have HM1:=H_ (all_more L es s k hkl)
   have HRk:=H_ (rise_all (es.take k) s HR.out)
   have HLk:=H_ (HLL.out k)
   have HB1:Hid (0≤B+(k:Int)*1000000000000000∧B+(k:Int)*1000000000000000≤3500000000000000000):=H_ (by have:=HB.out;omega)
   generalize all L (es.take k) s=L1 at *
   generalize es.getD k N.zero=X at *
   obtain ⟨xi,xn⟩:=X
   dsimp only at c0 c1 hnb
   obtain ⟨hm1,hm2⟩:=mul_w HSS.out hnb
   have HM2:Hid (all L (es.take (k+1)) s=put L1 ⟨xi,s*xn⟩):=HM1
   have HPB:=H_ (put_bd (x:=⟨xi,s*xn⟩) HB1.out.1 HBD.out (C:=1000000000000000) (by omega) hm2)
   obtain ⟨Y,hY⟩:∃Y,s*xn=Y:=⟨_,rfl⟩
   have hm3:IntKind.i64.wrap (s*xn)=Y:=by rw [i_in (by omega)];exact hY
   rw [hY] at HM2 HPB hm2
   have HYB:=H_ hm2
   have HS0:Hid (LB w b0 (off+k*2) xi xn wr.drew):=H_ ⟨HW.out.drew,hbl,c0,c1⟩
   obtain ⟨g,cap,rfl,hg1,hg2,hg3,hg4,hg5⟩:=HV.out.open
   have HG5:=H_ hg5
   have HX0:=H_ (BlkW.new wr.drew [.string xi,.int .i64 Y] 209)
   have HV0:=H_ (HV.out.below (w':=wr.drew.alloc (.cells #[.string xi,.int .i64 Y] 209)) (Below.trans (Below.refl _ _).drew (al wr.drew _)))
   have HW0:=H_ (HW.out.trans ((Below.trans (Below.refl _ _).drew (al wr.drew (.cells #[.string xi,.int .i64 Y] 209))).mono HW.out.size))
   obtain ⟨l1,hl1⟩:∃l1,l1=L1.length:=⟨_,rfl⟩
   rw [←hl1]
   have HL1:=H_ hl1
   clear hl1 hY hm1 HM1 hnb hm2 HV HW hg5
   go_wp2_with fail
   refine wp_region_held_drew (S:=(fun W=>Below w.heap.size w W∧b0<W.heap.size∧W.cell? ⟨b0,off+k*2,none⟩=some (.string xi)∧W.cell? ⟨b0,off+k*2+1,none⟩=some (.int .i64 xn))) (by kernel_rfl) HS0.out (fun hHeld=>?_)
   refine tk 0 ?_
   refine tk 1 ?_
   refine tk 2 ?_
   refine tk 3 ?_
   refine tk 4 ?_
   refine tk 5 ?_
   refine tk 6 ?_
   refine tk 7 ?_
   refine tk 8 ?_
   refine tk 9 ?_
   refine tk 10 ?_
   refine tk 11 ?_
   refine tk 12 ?_
   refine rd 13 (fun K hK=>?_)
   go_simp
   try go_wp2_with fail
   have hk1:=@LB.below w b0 (off+k*2) xi xn _ _ HS0.out (al _ (.cells #[.string ⟨#[]⟩,.int .i64 0] 209))
   refine hK.out _ _ hk1 (fun _=>?_)
   clear hK K
   try simp only [Act.put,SL]
   refine rd 14 (fun K hK=>?_)
   go_simp
   try go_wp2_with fail
   have hk2:=@LB.below w b0 (off+k*2) xi xn _ _ HS0.out (al _ (.cells #[.string xi,.int .i64 Y] 209))
   refine hK.out _ _ hk2 (fun _=>?_)
   clear hK K
   try simp only [Act.put,SL]
   refine wpAnyH_done (by kernel_rfl) ?_ _
   obtain ⟨W1,hW1⟩:∃W1,W1=(wr.alloc (.cells #[.string xi,.int .i64 Y] 209)).drew:=⟨_,rfl⟩
   have HX1:Hid (BlkW wr.heap.size [.string xi,.int .i64 Y] W1):=H_ (by rw [hW1];exact HX0.out)
   have HV1:Hid (OwnN W1 w.heap.size (.slice (some ⟨g,0,none⟩) L1.length cap) L1):=H_ (by rw [hW1];exact HV0.out)
   have HW1:Hid (Below w.heap.size w W1):=H_ (by rw [hW1];exact HW0.out)
   have HG1:Hid (Lis (some ⟨g,0,none⟩) L1 W1):=H_ (by rw [hW1];exact HG5.out.below (Below.trans (Below.refl _ _).drew (al wr.drew _)))
   have hwl:=HX1.out.1.1
   have x0:=q_ HX1.out.1.2 0
   have x1:=q_ HX1.out.1.2 1
   have HC:=H_ (sline g 0 cap L1 xi Y W1 (by have:=HLk.out;omega) (by have:=HL1.out;omega) hg2 HG1.out)
   rw [←HL1.out] at HC
   have HGX:Hid (g<wr.heap.size∧w.heap.size≤wr.heap.size):=H_ ⟨hg4,by have:=HS0.out.1.size;simpa using this⟩
   rw [←hW1]
   clear hW1 HX0 HV0 HW0 HS0 HG5 hk1 hk2
   generalize wr.heap.size=wx at *
   clear c0 c1 hbl
   go_wp2_with fail
   refine HC.out.mono ?_
   rintro e w2 (⟨hf,rfl,hb⟩|⟨hf,⟨v,rfl,ho⟩,hb⟩)
   ·have HF:=H_ hf
    have HX2:=H_ (HX1.out.below hb)
    have HV2:=H_ (HV1.out.below hb)
    have HW2:=HT_ HW1 hb
    rw [←HL1.out]
    have hl1b:l1≤100400:=by have:=HLk.out;have:=HL1.out;omega
    clear hf hb x0 x1 hwl HX1 HV1 HW1 HG1 HC
    go_wp2_with fail
    go_loopw [12] (fun z wq=>∃k2:Nat,k2≤l1∧z=.int .i64 k2∧Hid (wq.ownsRow w.heap.size 209 2 (.slice (some ⟨g,0,none⟩) l1 cap) l1 (cellsAll N.cells (mix L1 ⟨xi,Y⟩ k2)))∧Hid (BlkW wx [.string xi,.int .i64 Y] wq)∧Hid (Below w.heap.size w wq)) (fun z _=>l1-(intOf z).toNat)
    case atStart=>exact ⟨0,by omega,rfl,H_ (by have h:=HV2.out.1;rw [←HL1.out] at h;simpa [mix] using h),HX2,HW2⟩
    case round =>
     obtain ⟨wq,hwq⟩:∃wq,wq=wr:=⟨_,rfl⟩
     subst hwq
     obtain ⟨k2,hk2,rfl,HO,HX,HW⟩:=hrel
     clear HX2 HV2 HW2
     have hwl:=HX.out.1.1
     have x0:=q_ HX.out.1.2 0
     by_cases hq:k2<l1
     ·have hq2:(k2:Int)<(l1:Int):=by omega
      have hql:k2<L1.length:=by have:=HL1.out;omega
      have HMM:=H_ (mix_more L1 ⟨xi,Y⟩ k2 hql)
      have HMA:=H_ (mix_at L1 ⟨xi,Y⟩ k2 hql)
      have HML:=H_ (mix_len L1 ⟨xi,Y⟩ k2)
      have HSS2:=H_ (set_self (mix L1 ⟨xi,Y⟩ k2) k2 (by rw [mix_len];exact hql))
      have HCS:=H_ (fun m=>cells_set (mix L1 ⟨xi,Y⟩ k2) k2 m (by rw [mix_len];exact hql))
      have hyb:=HBD.out _ (getD_mem (z:=N.zero) L1 k2 hql)
      have HO':Hid (wq.ownsRow w.heap.size 209 2 (.slice (some ⟨g,0,none⟩) (mix L1 ⟨xi,Y⟩ k2).length cap) (mix L1 ⟨xi,Y⟩ k2).length (cellsAll N.cells (mix L1 ⟨xi,Y⟩ k2))):=H_ (by rw [mix_len,←HL1.out];exact HO.out)
      have HPT:=H_ (lis_pt HO'.out)
      obtain ⟨ao,cp,e1,hmm⟩:=own_made (z:=N.zero) N.len HO'.out
      simp only [Value.slice.injEq] at e1
      obtain ⟨rfl,_,rfl⟩:=e1
      obtain ⟨hgl,d0,d1⟩:=lis_two hmm.rws k2 (by rw [mix_len];exact hql)
      have hfz:=HPT.out.free (k2*2+1) (by rw [mix_len];omega)
      rw [HMA.out,Nat.zero_add] at d0 d1
      rw [HMA.out] at HSS2 HCS
      generalize L1.getD k2 N.zero=Z at *
      obtain ⟨yi,yn⟩:=Z
      dsimp only at d0 d1 hyb HSS2 HCS
      clear HO' hmm HMA
      by_cases he:yi=xi
      ·have he2:=he.symm
       subst he2
       have HN:Hid (mix L1 ⟨xi,Y⟩ (k2+1)=(mix L1 ⟨xi,Y⟩ k2).set k2 ⟨xi,yn+Y⟩):=H_ (by rw [HMM.out];unfold upd;rw [if_pos rfl])
       have he3:(xi.toList==xi.toList)=true:=by simp
       have hwz:IntKind.i64.wrap (yn+Y)=yn+Y:=i_in (by have:=HB1.out;have:=HYB.out;omega)
       have hcl:k2*2+1<(cellsAll N.cells (mix L1 ⟨xi,Y⟩ k2)).length:=by rw [cellsAll_len N.len,mix_len];omega
       have HON:=H_ (fun (W:World) (h:W.ownsRow w.heap.size 209 2 (.slice (some ⟨g,0,none⟩) l1 cap) l1 (cellsAll N.cells (mix L1 ⟨xi,Y⟩ k2)))=>own_row_set (j:=k2*2+1) (u:=.int .i64 (yn+Y)) h hcl)
       rw [HCS.out (yn+Y),←HN.out] at HON
       clear HN HCS HSS2 HMM hcl HML hyb he
       generalize mix L1 ⟨xi,Y⟩ k2=M2 at *
       go_wp2_with fail
       go_quiet (fail)
       obtain ⟨W3,hW3⟩:∃W3,W3=wq.drewN nq:=⟨_,rfl⟩
       rw [←hW3]
       have HD3:Hid (Below wq.heap.size wq W3):=H_ (by rw [hW3];exact bdn (Below.refl _ _) _)
       clear hW3
       have HO3:=H_ (own_below HO.out HD3.out)
       have HX3:=H_ (HX.out.below HD3.out)
       have HW3:=H_ (HW.out.trans (HD3.out.mono HW.out.size))
       have p1:W3.cell? ⟨g,k2*2+1,none⟩=some (.int .i64 yn):=(HD3.out.cell (p:=⟨g,k2*2+1,none⟩) hgl).trans d1
       have pf:W3.frozen? ⟨g,k2*2+1,none⟩=false:=(World.frozen?_of_block (a:=⟨g,k2*2+1,none⟩) (HD3.out.block g hgl)).trans hfz
       have hgl3:g<W3.heap.size:=by have:=HD3.out.size;omega
       have HS3:Hid (g<W3.drew.heap.size∧wx<W3.drew.heap.size∧W3.drew.cell? ⟨wx,1,none⟩=some (.int .i64 Y)):=H_ ⟨hgl3,HX3.out.1.1,HX3.out.1.2 1 (by simp)⟩
       have HSC:Hid ((W3.drew.setCell ⟨g,k2*2+1,none⟩ (.int .i64 (yn+Y))).cell? ⟨wx,1,none⟩=some (.int .i64 Y)):=H_ ((DocR.BlkW.other (HX3.out.below (Below.refl _ _).drew) g (k2*2+1) (.int .i64 (yn+Y)) (by have:=HGX.out;omega)).1.2 1 (by simp))
       clear HO HX HW d0 d1 hgl hfz x0 hwl
       go_wp2_with fail
       refine wp_region_held_drew (S:=(fun W=>g<W.heap.size∧wx<W.heap.size∧W.cell? ⟨wx,1,none⟩=some (.int .i64 Y))) (by kernel_rfl) HS3.out (fun hHeld=>?_)
       refine tk 0 ?_
       refine tk 1 ?_
       refine tk 2 ?_
       refine tk 3 ?_
       refine tk 4 ?_
       refine tk 5 ?_
       refine tk 7 ?_
       refine tk 8 ?_
       refine rd 6 (fun K hK=>?_)
       go_simp
       try go_wp2_with fail
       refine hK.out _ _ HS3.out (fun _=>?_)
       clear hK K
       try simp only [Act.put,SL]
       refine tk 9 ?_
       refine tk 10 ?_
       refine tk 11 ?_
       refine rd 12 (fun K hK=>?_)
       go_simp
       try go_wp2_with fail
       have hk3:g<(W3.drew.setCell ⟨g,k2*2+1,none⟩ (.int .i64 (yn+Y))).heap.size∧wx<(W3.drew.setCell ⟨g,k2*2+1,none⟩ (.int .i64 (yn+Y))).heap.size∧(W3.drew.setCell ⟨g,k2*2+1,none⟩ (.int .i64 (yn+Y))).cell? ⟨wx,1,none⟩=some (.int .i64 Y):=⟨by simpa using hgl3,by simpa using HX3.out.1.1,HSC.out⟩
       refine hK.out _ _ hk3 (fun _=>?_)
       clear hK K
       try simp only [Act.put,SL]
       refine wpAnyH_done (by kernel_rfl) ?_ _
       obtain ⟨W5,hW5⟩:∃W5,W5=(W3.setCell ⟨g,k2*2+1,none⟩ (.int .i64 (yn+Y))).drew:=⟨_,rfl⟩
       have HO5:Hid (W5.ownsRow w.heap.size 209 2 (.slice (some ⟨g,0,none⟩) l1 cap) l1 (cellsAll N.cells (mix L1 ⟨xi,Y⟩ (k2+1)))):=H_ (by rw [hW5];exact HON.out _ (own_drew HO3.out))
       have HX5:Hid (BlkW wx [.string xi,.int .i64 Y] W5):=H_ (by rw [hW5];exact DocR.BlkW.other (HX3.out.below (Below.refl _ _).drew) g _ _ (by have:=HGX.out;omega))
       have HW5:Hid (Below w.heap.size w W5):=H_ (by rw [hW5];exact HW3.out.drew.setCell (by have:=HGX.out;omega) _)
       rw [←hW5]
       clear hW5 p1 pf hgl3 HS3 HO3 HX3 HW3
       go_wp2_with fail
       go_roundw
       case rel=>exact ⟨k2+1,by omega,by go_num,HO5,HX5,HW5⟩
       case measure=>simp [intOf];omega
      ·have he3:(yi.toList==xi.toList)=false:=by simpa using fun e=>he (toList_inj e)
       have HN:Hid (mix L1 ⟨xi,Y⟩ (k2+1)=mix L1 ⟨xi,Y⟩ k2):=H_ (by rw [HMM.out];unfold upd;rw [if_neg he];exact HSS2.out)
       go_wp2_with fail
       go_quiet (fail)
       obtain ⟨W3,hW3⟩:∃W3,W3=wq.drewN nq:=⟨_,rfl⟩
       rw [←hW3]
       have HD3:Hid (Below wq.heap.size wq W3):=H_ (by rw [hW3];exact bdn (Below.refl _ _) _)
       clear hW3
       have HO3:=H_ (own_below HO.out HD3.out)
       have HX3:=H_ (HX.out.below HD3.out)
       have HW3:=H_ (HW.out.trans (HD3.out.mono HW.out.size))
       go_wp2_with fail
       go_roundw
       case rel=>exact ⟨k2+1,by omega,by go_num,H_ (by rw [HN.out];exact HO3.out),HX3,HW3⟩
       case measure=>simp [intOf];omega
     ·have hq2:¬(k2:Int)<(l1:Int):=by omega
      obtain rfl:k2=l1:=by omega
      have HEM:=H_ (mix_end (x:=⟨xi,Y⟩) HRk.out HF.out)
      have HO9:Hid (OwnN wq w.heap.size (.slice (some ⟨g,0,none⟩) k2 cap) (put L1 ⟨xi,Y⟩)):=H_ (by
       have h:=HO.out
       have e:k2=(put L1 ⟨xi,Y⟩).length:=by rw [←HEM.out,mix_len];exact HL1.out
       have e2:mix L1 ⟨xi,Y⟩ k2=put L1 ⟨xi,Y⟩:=by rw [HL1.out];exact HEM.out
       rw [e2] at h
       exact ⟨by rw [←e];exact h,fun e=>by cases e⟩)
      go_wp2_with fail
      go_roundw
      case rel=>exact ⟨k+1,by omega,by go_num,H_ (by rw [HM2.out];exact HO9.out),H_ (by rw [HM2.out];intro y hy;have:=HPB.out y hy;omega),HW⟩
      case measure=>simp [intOf];omega
   ·have HV2:Hid (OwnN w2 w.heap.size v (put L1 ⟨xi,Y⟩)):=H_ (own_nonnil (own_low ho HW1.out.size) (put_pos _ _))
    have HW2:=HT_ HW1 hb
    clear hf ho hb
    go_wp2_with fail
    go_roundw
    case rel=>exact ⟨k+1,by omega,by go_num,H_ (by rw [HM2.out];exact HV2.out),H_ (by rw [HM2.out];intro y hy;have:=HPB.out y hy;omega),HW2⟩
    case measure=>simp [intOf];omega
  ·have hlt2:¬(k:Int)<(len:Int):=by omega
   obtain rfl:k=len:=by omega
   rw [HEND.out] at HV
   go_wp2_with fail
   go_ret
   exact ⟨_,rfl,HV.out,HW.out⟩
end NetR
namespace NetR
open LinR RowG LtR
def ovE (r:Bool):Value:=if r then .nilIface else .iface 229 (.agg #[.int .i64 12])
theorem ov_false {L:List N} {y:N} (hy:y∈L) (h:nOk y.n=false):ovB L=false:=by
 unfold ovB
 cases hh:L.all (fun y=>nOk y.n)
 ·rfl
 ·rw [List.all_eq_true] at hh
  have:=hh y hy
  rw [h] at this
  cases this
theorem over_any (b M:Nat) (D:DataW Value) (L:List N) (w:World) (hO:w.ownsMap Tryz.prog 9 (plainElem (H:=Value) Tryz.prog 2) b M D) (hN:NetM D L) :
 Calls Tryz.prog 170 #[.map (some b)] w fun e w'=>e=.returned (ovE (ovB L))∧Below w.heap.size w w':=by
 have HO:=H_ hO
 have HN:=H_ hN
 have hblt:=hO.lt
 have HIN:=H_ (fun n w=>inum n w)
 clear hO hN
 go_enter Tryz.func170,Tryz.ntmps170
 go_wp2_with (at_range;refine wpList_range_own _ rfl _ 233 rfl 9 2 keyedS Tryz.underlying233 _ b M D rfl HO.out ?_;intro w0 hrg0 hg0 hs0)
 have HB0:Hid (Below w.heap.size w w0):=H_ ((Below.refl _ _).grown hg0 (Nat.le_refl _) (fun k e=>by cases e))
 clear hg0 hs0
 go_frame
 go_loopw [2] (fun v wr=>∃(left:Lit→Bool) (cnt:Nat),v=.nilIface∧wr.ranges Tryz.prog 9 (plainElem (H:=Value) Tryz.prog 2) b w.heap.size M D left cnt∧Hid (∀y∈L,left (kS y.i)=false→nOk y.n=true)∧Hid (Below w.heap.size w wr)) (fun _ wr=>wr.rangeLeft b w.heap.size)
 case atStart=>exact ⟨_,_,rfl,hrg0,H_ (fun y hy h=>by rw [(HN.out.has y.i).2 ⟨y,hy,rfl⟩] at h;cases h),HB0⟩
 case round =>
  obtain ⟨left,cnt,rfl,hrg,HLf,HB⟩:=hrel
  have HRG:=H_ hrg
  have hmeas:=hrg.left_eq
  clear hrg
  go_wp2_with (at_next;refine wpList_next_ranges _ rfl _ rfl 9 keyedS _ encStr (Value.int .i64) (fun key kl h=>by obtain ⟨x,hx,_⟩:=Maps.keyOf_str Tryz.underlying9 h;exact ⟨x,hx⟩) (fun v y h=>by obtain ⟨a,ha,_⟩:=plainElem_int_inv Tryz.underlying2 h;exact ⟨a,ha⟩) b w.heap.size M D left cnt rfl HRG.out ?_ ?_)
  ·intro hc0 hl0
   have HE:Hid (ovB L=true):=H_ (by unfold ovB;rw [List.all_eq_true];exact fun y hy=>HLf.out y hy (hl0 _))
   clear hl0
   go_wp2_with fail
   go_ret
   exact ⟨by rw [HE.out];rfl,HB.out⟩
  ·intro x c kl yd yp w' cnt' hkey hlk hv hat hrg' hlt hgr hsz hen
   obtain ⟨x',hx',hkl,_⟩:=Maps.keyOf_str Tryz.underlying9 hkey
   obtain ⟨a,ha,hy,_⟩:=plainElem_int_inv Tryz.underlying2 hv
   simp only [Value.int.injEq,true_and] at ha
   subst ha
   simp only [Prod.mk.injEq] at hy
   obtain ⟨rfl,_⟩:=hy
   obtain ⟨q,hq,hqk⟩:=HN.out.key ⟨x',hkl⟩ (Maps.has_true_of_atKey hat)
   have hqn:q.n=c:=by
    have h1:=HN.out.nat q hq (.lit (.int .i64 0))
    rw [hqk,hat] at h1
    simpa using h1.symm
   have HB1:=H_ (HB.out.grown hgr HB.out.size (fun k e=>by cases e;exact Nat.le_refl _))
   have HRG1:=H_ hrg'
   have hms:=hrg'.left_eq
   have HQ:Hid (nOk c=false→ovB L=false):=H_ (fun h=>ov_false hq (by rw [hqn];exact h))
   have HL2:Hid (nOk c=true→∀y∈L,(left (kS y.i) && !(kS y.i).sameKey kl)=false→nOk y.n=true):=H_ (fun h y hy h2=>by
    cases h3:left (kS y.i)
    ·exact HLf.out y hy h3
    ·rw [h3] at h2
     simp only [Bool.true_and,Bool.not_eq_false'] at h2
     have e:=WideAt.sameKey_eq h2
     have h4:=HN.out.nat y hy (.lit (.int .i64 0))
     rw [e,hat] at h4
     have h5:c=y.n:=by simpa using h4
     rw [←h5];exact h)
   clear hkey hlk hv hat hrg' hgr hqk hqn hq hx' hkl HRG HLf HB
   have HC:=H_ (fun w=>inum c w)
   generalize nOk c=r at *
   cases r
   ·have HE:=H_ (HQ.out rfl)
    go_wp2_with (go_at_call 200;refine (HC.out _).mono ?_;rintro e w2 ⟨rfl,rfl⟩)
    go_ret
    exact ⟨by rw [HE.out];rfl,HB1.out⟩
   ·have HE:=H_ (HL2.out rfl)
    go_wp2_with (go_at_call 200;refine (HC.out _).mono ?_;rintro e w2 ⟨rfl,rfl⟩)
    go_roundw
    case rel=>exact ⟨_,_,rfl,HRG1.out,HE,HB1⟩
    case measure=>rw [hms,hmeas];exact hlt
theorem omap_below {P:Program} {k:TypeId} {R:Value→Option (DataW Value × List MemPlace)} {w w':World} {b n:Nat} {D:DataW Value} (h:w.ownsMap P k R b n D) (hb:Below w.heap.size w w'):w'.ownsMap P k R b n D :=
 h.kept (row:=none) ⟨hb.os,hb.tape,hb.output,hb.size,fun k hk _=>hb.block k hk⟩ (by simp)
end NetR
namespace NetR
open LinR RowG LtR
def clL (L:List N):List N:=bif ovB L then L.filter nz else []
theorem all_take {L:List N} {k:Nat} (h:k<L.length):(L.take (k+1)).all (fun y=>nOk y.n)=((L.take k).all (fun y=>nOk y.n)&&nOk (L.getD k N.zero).n):=by
 rw [take_more (z:=N.zero) L k h,List.all_append]
 simp
theorem sclean (ao:Option Addr) (cap:Nat) (L:List N) (w:World) (hlen:L.length≤1048575) (hI:Lis ao L w) :
 Calls Tryz.prog 108 #[.slice ao L.length cap] w fun e w'=>∃v,e=.returned (.tuple #[v,.bool (ovB L)])∧OwnN w' w.heap.size v (clL L)∧Below w.heap.size w w':=by
 obtain ⟨i0,hi,hz0,hz1,hz2⟩:=info_parts infoN
 have HI:=H_ hI
 obtain ⟨len,hl⟩:∃len,len=L.length:=⟨_,rfl⟩
 rw [←hl] at hlen ⊢
 have HL:=H_ hl
 have HSN:=H_ (fun n w=>snum n w)
 have HE:=H_ (own_empty w w.heap.size 209 2 (Nat.le_refl _))
 clear hI hl
 go_enter Tryz.func108,Tryz.ntmps108
 go_wp2_with fail
 go_loopw [4,5] (fun v z wr=>∃k:Nat,k≤len∧z=.int .i64 k∧Hid (OwnN wr w.heap.size v ((L.take k).filter nz))∧Hid ((L.take k).all (fun y=>nOk y.n)=true)∧Hid (Below w.heap.size w wr)) (fun v z _=>len-(intOf z).toNat)
 case atStart=>exact ⟨0,by omega,rfl,H_ ⟨HE.out,fun e=>by cases e⟩,H_ rfl,H_ (al _ _)⟩
 case round =>
  obtain ⟨k,hk,rfl,HO,HA,HB⟩:=hrel
  by_cases hlt:k<len
  ·have hlt2:(k:Int)<(len:Int):=by omega
   have hkl:k<L.length:=by have:=HL.out;omega
   obtain ⟨b,off,rfl,hbl,c0,c1⟩:=(HI.out.below HB.out).at k hkl
   have HF:=H_ (filter_more nz L k hkl)
   have HA2:=H_ (all_take hkl)
   have HLF:Hid (((L.take k).filter nz).length≤1048575):=H_ (by
    have h1:=List.length_filter_le nz (L.take k)
    have h2:=(List.take_sublist k L).length_le
    have:=HL.out
    omega)
   have HMEM:=H_ (getD_mem (z:=N.zero) L k hkl)
   obtain ⟨F,hF⟩:∃F,F=(L.take k).filter nz:=⟨_,rfl⟩
   rw [←hF] at HO HF HLF
   clear hF
   generalize L.getD k N.zero=X at *
   obtain ⟨xi,xn⟩:=X
   dsimp only at c0 c1 HA2
   have HC:=H_ (fun w=>snum xn w)
   have HOV:Hid (nOk xn=false→ovB L=false):=H_ (fun h=>ov_false HMEM.out h)
   generalize nOk xn=r at *
   cases r
   ·have HE2:=H_ (HOV.out rfl)
    have HBz:=H_ (HB.out.alloc HB.out.size (.cells #[] 209))
    have HOz:=H_ (own_empty wr w.heap.size 209 2 HB.out.size)
    have HPz:Hid (∀W,W.ownsRow w.heap.size 209 2 (.slice (some ⟨wr.heap.size,0,none⟩) 0 0) 0 []→OwnN W w.heap.size (.slice (some ⟨wr.heap.size,0,none⟩) 0 0) (clL L)):=H_ (fun W h=>by
     unfold clL
     rw [HE2.out,cond_false]
     exact ⟨h,fun e=>by cases e⟩)
    go_wp2_with (go_at_call 153;refine (HC.out _).mono ?_;rintro e w2 ⟨rfl,rfl⟩)
    go_ret2
    exact ⟨_,by rw [HE2.out];rfl,HPz.out _ HOz.out,HBz.out⟩
   ·have HA3:Hid ((L.take (k+1)).all (fun y=>nOk y.n)=true):=H_ (by rw [HA2.out,HA.out];rfl)
    rcases nz_cases xi xn with ⟨q1,q2,q3⟩|⟨q1,q2,q3⟩
    ·rw [q3,cond_false,List.append_nil] at HF
     go_wp2_with (go_at_call 153;refine (HC.out _).mono ?_;rintro e w2 ⟨rfl,rfl⟩)
     go_roundw
     case rel=>exact ⟨k+1,by omega,by go_num,H_ (by rw [HF.out];exact HO.out),HA3,HB⟩
     case measure=>simp [intOf];omega
    ·rw [q3,cond_true] at HF
     go_wp2_with (first|(go_at_call 153;refine (HC.out _).mono ?_;rintro e w2 ⟨rfl,rfl⟩)|(at_builtin;refine wpList_append_own _ rfl _ _ 120 rfl w.heap.size 209 i0 (.agg #[.string ⟨#[]⟩,.int .i64 0]) 2 24 Tryz.underlying120 hi hz0 hz1 hz2 rfl (by decide) _ _ _ rfl (HO.out.1.alloc _) ⟨_,0,none⟩ 1 1 (N.cells ⟨xi,xn⟩) rfl rfl (two_cells _ _ _ _) (two_one _) ?d3 ?d4 ?d5 ?_))
     case d3=>unfold maxLen;have:=HLF.out;omega
     case d4=>have:=HLF.out;omega
     case d5=>have h1:=HB.out.size;simp;omega
     intro v' w4 hown hgrow hne
     have HO4:Hid (OwnN w4 w.heap.size v' (F ++ [(⟨xi,xn⟩:N)])):=H_ (own_nonnil (by rw [cellsAll_app,List.length_append];exact hown) (by simp))
     have HOB:=H_ (fun c hc=>(HO.out.1.lt c hc).1)
     have HB4:Hid (Below w.heap.size w w4):=H_ ((HB.out.alloc HB.out.size _).grown hgrow (HB.out.alloc HB.out.size _).size (fun c e=>HOB.out c e))
     clear hown hgrow hne
     go_wp2_with fail
     go_roundw
     case rel=>exact ⟨k+1,by omega,by go_num,H_ (by rw [HF.out];exact HO4.out),HA3,HB4⟩
     case measure=>simp [intOf];omega
  ·have hlt2:¬(k:Int)<(len:Int):=by omega
   obtain rfl:k=len:=by omega
   have HT:Hid (L.take k=L):=H_ (List.take_of_length_le (by have:=HL.out;omega))
   rw [HT.out] at HO HA
   have HE2:Hid (ovB L=true):=HA
   have HP:Hid (∀W v,OwnN W w.heap.size v (L.filter nz)→OwnN W w.heap.size v (clL L)):=H_ (fun W v h=>by unfold clL;rw [HE2.out,cond_true];exact h)
   go_wp2_with fail
   go_ret2
   exact ⟨_,by rw [HE2.out];rfl,HP.out _ _ HO.out,HB.out⟩
theorem right_bd {es:List N} (h:SRight es):∀e∈es,-1000000000000000≤e.n∧e.n≤1000000000000000:=by
 intro e he
 obtain ⟨i,hi,rfl⟩:=List.getElem_of_mem he
 have h1:=(h.2 i hi).2
 unfold lOk nOk at h1
 simp only [Bool.and_eq_true,decide_eq_true_eq] at h1
 have e2:es.getD i N.zero=es[i]:=by simp [List.getD,hi]
 rw [e2] at h1
 exact h1.2.1
end NetR
namespace LedR
open LinR RowG LtR NetR DocR
def of (a:ByteArray) (m:Int) (d:D):Bool:=d.a.toList==a.toList&&d.mo==m
theorem of_iff {a:ByteArray} {m:Int} {d:D}:of a m d=true↔d.a=a∧d.mo=m:=by
 unfold of
 simp only [Bool.and_eq_true,beq_iff_eq]
 exact ⟨fun h=>⟨toList_inj h.1,h.2⟩,fun h=>⟨by rw [h.1],h.2⟩⟩
theorem of_self (d:D):of d.a d.mo d=true:=of_iff.2 ⟨rfl,rfl⟩
def D.zero:D:=⟨⟨#[]⟩,0,0,[]⟩
def cnt (ds:List D) (a:ByteArray) (m:Int):Nat:=(ds.filter (of a m)).length
def net (ds:List D) (a:ByteArray) (m:Int):List N:=ds.foldl (fun L d=>bif of a m d then all L d.ls 1 else L) []
theorem tk_more (ds:List D) (k:Nat) (h:k<ds.length):ds.take (k+1)=ds.take k ++ [ds.getD k D.zero]:=take_more (z:=D.zero) ds k h
theorem cnt_more (ds:List D) (k:Nat) (h:k<ds.length) (a:ByteArray) (m:Int):cnt (ds.take (k+1)) a m=cnt (ds.take k) a m+(bif of a m (ds.getD k D.zero) then 1 else 0):=by
 unfold cnt
 rw [tk_more ds k h,List.filter_append]
 generalize ds.getD k D.zero=X
 cases hx:of a m X<;>simp [hx]
theorem net_more (ds:List D) (k:Nat) (h:k<ds.length) (a:ByteArray) (m:Int):net (ds.take (k+1)) a m=bif of a m (ds.getD k D.zero) then all (net (ds.take k) a m) (ds.getD k D.zero).ls 1 else net (ds.take k) a m:=by
 unfold net
 rw [tk_more ds k h,List.foldl_append]
 rfl
theorem cnt_le (ds:List D) (a:ByteArray) (m:Int):cnt ds a m≤ds.length:=List.length_filter_le _ _
theorem net_zero:∀{ds:List D} {a:ByteArray} {m:Int},cnt ds a m=0→net ds a m=[]:=by
 intro ds a m h
 unfold cnt at h
 unfold net
 have hf:∀d∈ds,of a m d=false:=by
  intro d hd
  cases hx:of a m d
  ·rfl
  ·have:d∈ds.filter (of a m):=List.mem_filter.2 ⟨hd,hx⟩
   rw [List.length_eq_zero_iff.1 h] at this
   cases this
 clear h
 generalize ([]:List N)=L
 induction ds generalizing L with
 | nil=>rfl
 | cons d ds ih =>
  rw [List.foldl_cons,hf d (by simp),cond_false]
  exact ih (fun d hd=>hf d (by simp [hd])) L
def SOk (ds:List D) (k:Nat):Prop:=∀i,i<k→dB (ds.getD i D.zero)=true∧(ds.getD i D.zero).sq=cnt (ds.take i) (ds.getD i D.zero).a (ds.getD i D.zero).mo
def NOk (ds:List D) (k:Nat):Prop:=∀i,i<k→ovB (net ds (ds.getD i D.zero).a (ds.getD i D.zero).mo)=true
def LRight (ds:List D):Prop:=ds.length≤30∧SOk ds ds.length∧NOk ds ds.length
def SOkDec (ds:List D) (k:Nat):Decidable (SOk ds k):=inferInstanceAs (Decidable (∀i,i<k→dB (ds.getD i D.zero)=true∧(ds.getD i D.zero).sq=cnt (ds.take i) (ds.getD i D.zero).a (ds.getD i D.zero).mo))
def NOkDec (ds:List D) (k:Nat):Decidable (NOk ds k):=inferInstanceAs (Decidable (∀i,i<k→ovB (net ds (ds.getD i D.zero).a (ds.getD i D.zero).mo)=true))
def LRightDec (ds:List D):Decidable (LRight ds) :=
 haveI:=SOkDec ds ds.length
 haveI:=NOkDec ds ds.length
 inferInstanceAs (Decidable (ds.length≤30∧SOk ds ds.length∧NOk ds ds.length))
def lB (ds:List D):Bool:=@decide (LRight ds) (LRightDec ds)
theorem lB_no {ds:List D} (h:¬LRight ds):lB ds=false:=by unfold lB;exact @decide_eq_false _ (LRightDec ds) h
theorem lB_yes {ds:List D} (h:LRight ds):lB ds=true:=by unfold lB;exact @decide_eq_true _ (LRightDec ds) h
theorem lB_iff {ds:List D}:lB ds=true↔LRight ds:=by unfold lB;exact @decide_eq_true_iff _ (LRightDec ds)
theorem SOk.zero (ds:List D):SOk ds 0:=fun i h=>absurd h (by omega)
theorem SOk.more {ds:List D} {k:Nat} (h:SOk ds k) (h1:dB (ds.getD k D.zero)=true) (h2:(ds.getD k D.zero).sq=cnt (ds.take k) (ds.getD k D.zero).a (ds.getD k D.zero).mo):SOk ds (k+1):=by
 intro i hi
 by_cases e:i=k
 ·subst e;exact ⟨h1,h2⟩
 ·exact h i (by omega)
theorem dB_lines {x:D} (h:dB x=true):SRight x.ls:=by
 unfold dB at h
 simp only [Bool.and_eq_true] at h
 exact sB_iff.1 h.2.2.2.1
theorem mem_cnt {ds:List D} {a:ByteArray} {m:Int} (h:cnt ds a m≠0):∃i,i<ds.length∧(ds.getD i D.zero).a=a∧(ds.getD i D.zero).mo=m:=by
 unfold cnt at h
 have:ds.filter (of a m)≠[]:=fun e=>h (by rw [e];rfl)
 obtain ⟨d,hd⟩:=List.exists_mem_of_ne_nil _ this
 obtain ⟨h1,h2⟩:=List.mem_filter.1 hd
 obtain ⟨i,hi,rfl⟩:=List.getElem_of_mem h1
 refine ⟨i,hi,?_⟩
 have e2:ds.getD i D.zero=ds[i]:=by simp [List.getD,hi]
 rw [e2]
 exact of_iff.1 h2
theorem cnt_mem {ds:List D} {i:Nat} (hi:i<ds.length):cnt ds (ds.getD i D.zero).a (ds.getD i D.zero).mo≠0:=by
 unfold cnt
 have e2:ds.getD i D.zero∈ds:=getD_mem (z:=D.zero) ds i hi
 have:ds.getD i D.zero∈ds.filter (of (ds.getD i D.zero).a (ds.getD i D.zero).mo):=List.mem_filter.2 ⟨e2,of_self _⟩
 intro h
 rw [List.length_eq_zero_iff.1 h] at this
 cases this
theorem net_facts {ds:List D}:∀k,k≤ds.length→SOk ds k→∀a m,Rise (net (ds.take k) a m)∧(net (ds.take k) a m).length≤6*k∧(∀y∈net (ds.take k) a m,-(6000000000000000*(k:Int))≤y.n∧y.n≤6000000000000000*(k:Int))
 | 0,_,_,a,m=>by simp [net,Rise]
 | k+1,hk,h,a,m=>by
  obtain ⟨i1,i2,i3⟩:=net_facts k (by omega) (fun i hi=>h i (by omega)) a m
  rw [net_more ds k (by omega)]
  have hr:=dB_lines (h k (by omega)).1
  generalize ds.getD k D.zero=X at *
  cases of a m X
  ·rw [cond_false]
   exact ⟨i1,by omega,fun y hy=>by have:=i3 y hy;omega⟩
  ·rw [cond_true]
   refine ⟨rise_all _ _ i1,by have:=all_len (net (ds.take k) a m) X.ls 1;have:=hr.1;omega,?_⟩
   have key:∀(b:List N) (L:List N) (B:Int),0≤B→(∀y∈L,-B≤y.n∧y.n≤B)→(∀e∈b,-1000000000000000≤e.n∧e.n≤1000000000000000)→∀y∈all L b 1,-(B+1000000000000000*(b.length:Int))≤y.n∧y.n≤B+1000000000000000*(b.length:Int):=by
    intro b
    induction b with
    | nil=>intro L B hB hL _ y hy;have:=hL y hy;simp;omega
    | cons e b ih =>
     intro L B hB hL hb y hy
     have h1:=hb e (by simp)
     have h2:=ih (NetR.put L (sg 1 e)) (B+1000000000000000) (by omega) (put_bd hB hL (by omega) (by simp only [sg];omega)) (fun e he=>hb e (by simp [he])) y hy
     simp only [List.length_cons]
     omega
   intro y hy
   have h1:=key X.ls _ (6000000000000000*(k:Int)) (by omega) i3 (right_bd hr) y hy
   have h2:=hr.1
   omega
end LedR
namespace LedR
open LinR RowG LtR NetR DocR
theorem laidOut:laidOutB Tryz.prog=true:=by kernel_rfl
theorem k1:(231:TypeId)<Tryz.prog.types.size:=of_decide_eq_true (by kernel_rfl)
theorem k2:Tryz.prog.keyTypeAt 2 231=true:=by kernel_rfl
theorem ten:2+1≤10000:=by omega
theorem lawP:WideMaps.KeyLaw Tryz.prog 231:=by
 have h:=@deep_law_laid Tryz.prog laidOut 2 ten 231 k1 k2
 refine h ?_
 rw [Tryz.underlying231]
theorem keyedP:Maps.Keyed Tryz.prog 231:=Maps.Keyed.of_law lawP
theorem hkt:Tryz.prog.keyType 231=true:=by kernel_rfl
theorem hc:Tryz.prog.cellsOf 231=2:=by kernel_rfl
theorem hcs:Tryz.prog.cellsOf 9=1:=by kernel_rfl
theorem hci:Tryz.prog.cellsOf 2=1:=by kernel_rfl
theorem tsz:1≤Tryz.prog.types.size:=of_decide_eq_true (by kernel_rfl)
def kP (a:ByteArray) (m:Int):Lit:=.string (keyBytes [.string a.data.toList,.int .i64 m])
def Good (a:ByteArray) (m:Int):Prop:=a.size≤1048576∧(Lit.int .i64 m).wf=true
theorem keyP_gen {P:Program} {k:TypeId} {f0 f1:Field} (hu:P.underlying k=some (.struct #[f0,f1])) (u0:P.underlying f0.type=some .string) (u1:P.underlying f1.type=some (.int .i64)) (hc:P.cellsOf k=2) (c0:P.cellsOf f0.type=1) (c1:P.cellsOf f1.type=1) (o0:f0.offset=0) (o1:f1.offset=1) (n0:(f0.name != "_")=true) (n1:(f1.name != "_")=true) (hkt:P.keyType k=true) (hn:1≤P.types.size)
 {a:ByteArray} {m:Int} (hs:a.size≤maxLen) (hm:(Lit.int .i64 m).wf=true):keyOf P k (.agg #[.string a,.int .i64 m])=some (kP a m):=by
 have hf:(Value.agg #[.string a,.int .i64 m]).formed P k=true:=by simp [Value.formed,hu,hc]
 obtain ⟨n,hn⟩:∃n,P.types.size=n+1:=⟨P.types.size-1,by omega⟩
 have e:P.keyLits (P.types.size+1) k [.string a,.int .i64 m]=some [.string a.data.toList,.int .i64 m]:=by
  rw [hn]
  simp [Program.keyLits,hu,u0,u1,hs,hm,hc,n0,n1,o0,o1,c0,c1]
 unfold keyOf
 rw [hu]
 simp [hkt,hf,Value.cells,e,kP]
theorem keyP {a:ByteArray} {m:Int} (h:Good a m):keyOf Tryz.prog 231 (.agg #[.string a,.int .i64 m])=some (kP a m) :=
 keyP_gen Tryz.underlying231 Tryz.underlying9 Tryz.underlying2 hc hcs hci rfl rfl rfl rfl hkt tsz (Nat.le_trans h.1 (by unfold maxLen;omega)) h.2
theorem kP_inj {a a':ByteArray} {m m':Int} (h:Good a m) (h':Good a' m') (e:kP a m=kP a' m'):a=a'∧m=m':=by
 have:=keyedP.inj (keyP h) (by rw [e];exact keyP h')
 simpa using this
theorem kP_key (a:ByteArray) (m:Int):WideAt.IsKeyLit (kP a m):=by
 unfold kP
 first|trivial|exact rfl|(simp [WideAt.IsKeyLit])
def RV (v:Value):Option (DataW Value × List MemPlace):=some (.held v,[])
theorem zeroR (w:World):(zeroValue 235).run Tryz.prog w=.ok (.agg #[.int .i64 0,.map none]) w:=by kernel_rfl
def Dcs (ao:Option Addr) (ds:List D) (w:World):Prop:=ds.length=0∨∃b off,ao=some ⟨b,off,none⟩∧b<w.heap.size∧∀j,j<ds.length→∃la lc,w.cell? ⟨b,off+j*4,none⟩=some (.string (ds.getD j D.zero).a)∧w.cell? ⟨b,off+j*4+1,none⟩=some (.int .i64 (ds.getD j D.zero).mo)∧w.cell? ⟨b,off+j*4+2,none⟩=some (.int .i64 (ds.getD j D.zero).sq)∧w.cell? ⟨b,off+j*4+3,none⟩=some (.slice la (ds.getD j D.zero).ls.length lc)∧Lis la (ds.getD j D.zero).ls w
theorem Dcs.below {ao:Option Addr} {ds:List D} {w w':World} (h:Dcs ao ds w) (hb:Below w.heap.size w w'):Dcs ao ds w':=by
 rcases h with h0|⟨b,off,rfl,hl,h⟩
 ·exact .inl h0
 ·refine .inr ⟨b,off,rfl,by have:=hb.size;omega,fun j hj=>?_⟩
  obtain ⟨la,lc,c0,c1,c2,c3,hL⟩:=h j hj
  have f:=fun x=>hb.cell (p:=⟨b,x,none⟩) hl
  exact ⟨la,lc,(f _).trans c0,(f _).trans c1,(f _).trans c2,(f _).trans c3,hL.below hb⟩
theorem Dcs.at {ao:Option Addr} {ds:List D} {w:World} (h:Dcs ao ds w) (j:Nat) (hj:j<ds.length):∃b off la lc,ao=some ⟨b,off,none⟩∧b<w.heap.size∧w.cell? ⟨b,off+j*4,none⟩=some (.string (ds.getD j D.zero).a)∧w.cell? ⟨b,off+j*4+1,none⟩=some (.int .i64 (ds.getD j D.zero).mo)∧w.cell? ⟨b,off+j*4+2,none⟩=some (.int .i64 (ds.getD j D.zero).sq)∧w.cell? ⟨b,off+j*4+3,none⟩=some (.slice la (ds.getD j D.zero).ls.length lc)∧Lis la (ds.getD j D.zero).ls w:=by
 rcases h with h0|⟨b,off,rfl,hl,h⟩
 ·omega
 ·obtain ⟨la,lc,r⟩:=h j hj
  exact ⟨b,off,la,lc,rfl,hl,r⟩
def RowsM (rb M:Nat) (ds:List D) (W:World):Prop:=∃(Dm:DataW Value) (f:ByteArray→Int→Nat),W.ownsMap Tryz.prog 231 RV rb M Dm ∧
 (∀kl,Maps.has Dm kl=true→∃a m,Good a m∧kl=kP a m∧cnt ds a m≠0) ∧
 (∀a m,cnt ds a m≠0→Good a m∧(∀z,Dm.atKey (kP a m) z=.held (.agg #[.int .i64 (cnt ds a m:Nat),.map (some (f a m))]))∧rb<f a m∧f a m<W.heap.size∧∃Dn M',M'≤6*ds.length∧W.ownsMap Tryz.prog 9 (plainElem (H:=Value) Tryz.prog 2) (f a m) M' Dn∧NetM Dn (net ds a m)) ∧
 (∀a m a' m',cnt ds a m≠0→cnt ds a' m'≠0→f a m=f a' m'→a=a'∧m=m')
theorem rows_nil (w:World):RowsM w.heap.size 0 [] (w.alloc (.map #[] 0)) :=
 ⟨.map [],fun _ _=>0,World.ownsMap_made w _ _ _,fun kl h=>by rw [Maps.has_eq] at h;simp at h,fun a m h=>absurd rfl h,fun a m _ _ h=>absurd rfl h⟩
theorem RowsM.kept {rb M:Nat} {ds:List D} {W W':World} (h:RowsM rb M ds W) (hb:Below W.heap.size W W'):RowsM rb M ds W':=by
 obtain ⟨Dm,f,h1,h2,h3,h4⟩:=h
 refine ⟨Dm,f,omap_below h1 hb,h2,fun a m hc=>?_,h4⟩
 obtain ⟨g,p1,p2,p3,Dn,M',p4,p5,p6⟩:=h3 a m hc
 exact ⟨g,p1,p2,by have:=hb.size;omega,Dn,M',p4,omap_below p5 hb,p6⟩
end LedR
end Go.Proofs.YtnceeaccbcfopaaGreatDoor
