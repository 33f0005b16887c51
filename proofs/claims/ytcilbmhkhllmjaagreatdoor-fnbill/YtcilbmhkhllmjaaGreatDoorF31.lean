/-
  spec.BillOf over a catalog and windows. The conditions: sizes of at most 1048576; the program's variables hold what its text lays.
  spec.l08Bill over a right catalog and right windows says what impl.BillOf says. The conditions: sizes of at most 1048576.
  spec.BillOf over a catalog and windows says what impl.BillOf says. The conditions: sizes of at most 1048576.
-/
import Derived.Test.YtcilbmhkhllmjaaGreatDoorF30
namespace Go.Proofs.YtcilbmhkhllmjaaGreatDoor
open Go.ChangeShapes Go.WideShapes Go.ChangeAt Go.RowKit
set_option linter.unusedVariables false
namespace BilR
open LtR WinR LinR
open RowG (Rws cellsAll own_below getD_mem MadeG made_nil own_made)
open CatR (Blk Blk.new Me Ca mFd mN MsRight MRight IsCa caB crF crO atB)
set_option maxRecDepth 100000 in
set_option maxHeartbeats 8000000 in
theorem sbo_in (ma:Option Addr) (ml mc:Nat) (ca:Option Addr) (cl cc:Nat) (a:ByteArray) (wo:Option Addr) (wc:Nat) (ws:List Wd) (O:List N × Int) (r1 r2:Bool) (w:World) (hwl:ws.length≤1048576) (hI:Wns wo ws w)
 (e2:8000<a.size∨400<ws.length→O=([],2)) (e1:¬(8000<a.size∨400<ws.length)→(r1&&r2&&wsB ws)=false→O=([],1))
 (hA:∀W,Below w.heap.size w W→Calls Tryz.prog 34 #[.agg #[.slice ma ml mc,.slice ca cl cc]] W fun e w'=>e=.returned (.bool r1)∧Below W.heap.size W w')
 (hN:∀W,Calls Tryz.prog 35 #[.string a] W fun e w'=>e=.returned (.bool r2)∧Below W.heap.size W w')
 (hw:∀k,k<ws.length→∀ta tc ha hc W,Below w.heap.size w W→Tgs ta (ws.getD k Wd.zero).ts W→Hrs ha (ws.getD k Wd.zero).hs W→Calls Tryz.prog 36 #[.agg (wcells (ws.getD k Wd.zero) ta tc ha hc)] W fun e w'=>e=.returned (.bool (wB (ws.getD k Wd.zero)))∧Below W.heap.size W w')
 (hB:¬(8000<a.size∨400<ws.length)→(r1&&r2&&wsB ws)=true→∀W,Below w.heap.size w W→Calls Tryz.prog 37 #[.agg #[.slice ma ml mc,.slice ca cl cc],.string a,.slice wo ws.length wc] W fun e w'=>BlO W O e w') :
 Calls Tryz.prog 7 #[.agg #[.slice ma ml mc,.slice ca cl cc],.string a,.slice wo ws.length wc] w fun e w'=>BlO w O e w':=by
 have HI:=H_ hI
 have HE2:=H_ e2
 have HE1:=H_ e1
 have HA:=H_ hA
 have HN:=H_ hN
 have HWR:=H_ hw
 have HBI:=H_ hB
 have HF:Hid (∀k,k<ws.length→wB (ws.getD k Wd.zero)=false→wsB ws=false):=H_ (fun k hk h=>wsB_no hk h)
 have HG:Hid (20<ws.length→wsB ws=false):=H_ (fun h=>by unfold wsB;rw [decide_eq_false (by omega)];rfl)
 have HY:Hid (ws.length≤20→(∀i,i<ws.length→wB (ws.getD i Wd.zero)=true)→wsB ws=true):=H_ (fun h h2=>wsB_yes h h2)
 generalize wsB ws=r3 at *
 obtain ⟨wl,hl⟩:∃wl,wl=ws.length:=⟨_,rfl⟩
 have HL:=H_ hl
 rw [←hl] at hwl HF HG HY HE2 HE1 HWR HBI ⊢
 clear hI e2 e1 hA hN hw hB hl
 obtain ⟨W0,hW0⟩:∃z,z=(w.alloc (.cells #[.slice ma ml mc,.slice ca cl cc] 36)).alloc (.cells #[.slice none 0 0,.int .i64 0] 31):=⟨_,rfl⟩
 have HB0:Hid (Below w.heap.size w W0):=H_ (by rw [hW0];exact ((Below.refl _ _).alloc (Nat.le_refl _) _).alloc (by simp) _)
 have HX0:Hid (Blk w.heap.size [.slice ma ml mc,.slice ca cl cc] W0):=H_ (by rw [hW0];exact (Blk.new w _ _).below ((Below.refl _ _).alloc (Nat.le_refl _) _))
 have HZ0:Hid (Z2 (w.heap.size+1) W0):=H_ (by rw [hW0];have:=Z2.new (w.alloc (.cells #[.slice ma ml mc,.slice ca cl cc] 36)) 31;simpa using this)
 have HW0:=H_ hW0
 clear hW0
 obtain ⟨B1,hB1⟩:∃z,z=w.heap.size+1:=⟨_,rfl⟩
 rw [←hB1] at HZ0
 have HBE:=H_ hB1
 have hBl:w.heap.size≤B1:=by omega
 clear hB1
 generalize hsz:a.size=sz at *
 by_cases qa:8000<sz
 ·have qa2:(8000:Int)<(sz:Int):=by omega
  obtain rfl:=HE2.out (.inl qa)
  go_enter Tryz.func7,Tryz.ntmps7
  go_wp2_with fail
  rw [←HW0.out,←HBE.out]
  refine (sill8 2 _).mono ?_
  rintro e wE ⟨rfl,hbE⟩
  have HBE2:=H_ (HB0.out.trans (hbE.mono HB0.out.size))
  obtain ⟨zl,z0,z1,y0,y1⟩:=HZ0.out.below hbE
  clear hbE
  go_wp2_with fail
  refine bodyPost_ret (v:=.agg #[.slice none 0 0,.int .i64 2]) (by simp [results,Tryz.results7,go_sem,z0,z1]) rfl ⟨none,0,rfl,made_nil _ _ _,below2 HBE2.out hBl _ _⟩
 have qa2:¬(8000:Int)<(sz:Int):=by omega
 by_cases qb:400<wl
 ·have qb2:(400:Int)<(wl:Int):=by omega
  obtain rfl:=HE2.out (.inr qb)
  go_enter Tryz.func7,Tryz.ntmps7
  go_wp2_with fail
  rw [←HW0.out,←HBE.out]
  refine (sill8 2 _).mono ?_
  rintro e wE ⟨rfl,hbE⟩
  have HBE2:=H_ (HB0.out.trans (hbE.mono HB0.out.size))
  obtain ⟨zl,z0,z1,y0,y1⟩:=HZ0.out.below hbE
  clear hbE
  go_wp2_with fail
  refine bodyPost_ret (v:=.agg #[.slice none 0 0,.int .i64 2]) (by simp [results,Tryz.results7,go_sem,z0,z1]) rfl ⟨none,0,rfl,made_nil _ _ _,below2 HBE2.out hBl _ _⟩
 have qb2:¬(400:Int)<(wl:Int):=by omega
 have HE:=H_ (HE1.out (by omega))
 have HBJ:=H_ (HBI.out (by omega))
 clear HE1 HE2 HBI
 go_enter Tryz.func7,Tryz.ntmps7
 go_wp2_with fail
 rw [←HW0.out,←HBE.out]
 clear HW0
 refine (HA.out _ HB0.out).mono ?_
 rintro e w1 ⟨rfl,hb1⟩
 replace HB0:=H_ (HB0.out.trans (hb1.mono HB0.out.size))
 replace HX0:=H_ (HX0.out.below hb1)
 replace HZ0:=H_ (HZ0.out.below hb1)
 clear hb1
 cases r1
 ·obtain rfl:=HE.out rfl
  go_wp2_with fail
  refine (sill8 1 _).mono ?_
  rintro e wE ⟨rfl,hbE⟩
  have HBE2:=H_ (HB0.out.trans (hbE.mono HB0.out.size))
  obtain ⟨zl,z0,z1,y0,y1⟩:=HZ0.out.below hbE
  clear hbE
  go_wp2_with fail
  refine bodyPost_ret (v:=.agg #[.slice none 0 0,.int .i64 1]) (by simp [results,Tryz.results7,go_sem,z0,z1]) rfl ⟨none,0,rfl,made_nil _ _ _,below2 HBE2.out hBl _ _⟩
 go_wp2_with fail
 refine (HN.out _).mono ?_
 rintro e w2 ⟨rfl,hb2⟩
 replace HB0:=H_ (HB0.out.trans (hb2.mono HB0.out.size))
 replace HX0:=H_ (HX0.out.below hb2)
 replace HZ0:=H_ (HZ0.out.below hb2)
 clear hb2
 cases r2
 ·obtain rfl:=HE.out rfl
  go_wp2_with fail
  refine (sill8 1 _).mono ?_
  rintro e wE ⟨rfl,hbE⟩
  have HBE2:=H_ (HB0.out.trans (hbE.mono HB0.out.size))
  obtain ⟨zl,z0,z1,y0,y1⟩:=HZ0.out.below hbE
  clear hbE
  go_wp2_with fail
  refine bodyPost_ret (v:=.agg #[.slice none 0 0,.int .i64 1]) (by simp [results,Tryz.results7,go_sem,z0,z1]) rfl ⟨none,0,rfl,made_nil _ _ _,below2 HBE2.out hBl _ _⟩
 by_cases qc:20<wl
 ·have qc2:(20:Int)<(wl:Int):=by omega
  obtain rfl:=HE.out (by rw [HG.out qc];rfl)
  go_wp2_with fail
  refine (sill8 1 _).mono ?_
  rintro e wE ⟨rfl,hbE⟩
  have HBE2:=H_ (HB0.out.trans (hbE.mono HB0.out.size))
  obtain ⟨zl,z0,z1,y0,y1⟩:=HZ0.out.below hbE
  clear hbE
  go_wp2_with fail
  refine bodyPost_ret (v:=.agg #[.slice none 0 0,.int .i64 1]) (by simp [results,Tryz.results7,go_sem,z0,z1]) rfl ⟨none,0,rfl,made_nil _ _ _,below2 HBE2.out hBl _ _⟩
 have qc2:¬(20:Int)<(wl:Int):=by omega
 go_wp2_with fail
 go_loopw [7] (fun z wr=>∃k:Nat,k≤wl∧z=.int .i64 k∧Hid (∀i,i<k→wB (ws.getD i Wd.zero)=true)∧Hid (Below w2.heap.size w2 wr)) (fun z _=>wl-(intOf z).toNat)
 case atStart=>exact ⟨0,by omega,rfl,H_ (fun i hi=>absurd hi (by omega)),H_ (Below.refl _ _)⟩
 case round =>
  obtain ⟨k,hk,rfl,HK,HB⟩:=hrel
  have HBr:=H_ (HB0.out.trans (HB.out.mono HB0.out.size))
  have HXr:=H_ (HX0.out.below HB.out)
  have HZr:=H_ (HZ0.out.below HB.out)
  by_cases hlt:k<wl
  ·have hlt2:(k:Int)<(wl:Int):=by omega
   obtain ⟨b,off,ta,tc,ha,hc,rfl,hbl,c0,c1,c2,c3,c4,c5,c6,c7,hT,hH⟩:=(HI.out.below HBr.out).at k (by have:=HL.out;omega)
   have hlk:k<ws.length:=by have:=HL.out;omega
   have HWK:=H_ (HWR.out k hlt ta tc ha hc _ HBr.out hT hH)
   have HFK:=H_ (HF.out k hlt)
   have HMK:Hid (wB (ws.getD k Wd.zero)=true→∀i,i<k+1→wB (ws.getD i Wd.zero)=true):=H_ (fun h i hi=>by
    by_cases e:i=k
    ·subst e;exact h
    ·exact HK.out i (by omega))
   obtain ⟨X,hX⟩:∃z,z=ws.getD k Wd.zero:=⟨_,rfl⟩
   rw [←hX] at c0 c1 c2 c3 c4 c5 c6 c7 hT hH HWK HFK HMK
   generalize hqw:wB X=bw at *
   clear hqw hX
   obtain ⟨xa,xm,xo,xe,xs,xx,xt,xh⟩:=X
   dsimp only [wcells] at c0 c1 c2 c3 c4 c5 c6 c7 HWK
   clear hT hH
   generalize xt.length=tl at *
   generalize xh.length=hl at *
   go_wp2_with fail
   clear c0 c1 c2 c3 c4 c5 c6 c7
   refine HWK.out.mono ?_
   rintro e w3 ⟨rfl,hb⟩
   have HB3:=H_ (HB.out.trans (hb.mono HB.out.size))
   have HBr3:=H_ (HBr.out.trans (hb.mono HBr.out.size))
   have HZ3:=H_ (HZr.out.below hb)
   clear hb HWK
   cases bw
   ·obtain rfl:=HE.out (by rw [HFK.out rfl];rfl)
    go_wp2_with fail
    refine (sill8 1 _).mono ?_
    rintro e wE ⟨rfl,hbE⟩
    have HBE2:=H_ (HBr3.out.trans (hbE.mono HBr3.out.size))
    obtain ⟨zl,z0,z1,y0,y1⟩:=HZ3.out.below hbE
    clear hbE
    go_wp2_with fail
    refine bodyPost_ret (v:=.agg #[.slice none 0 0,.int .i64 1]) (by simp [results,Tryz.results7,go_sem,z0,z1]) rfl ⟨none,0,rfl,made_nil _ _ _,below2 HBE2.out hBl _ _⟩
   have HK2:=H_ (HMK.out rfl)
   go_wp2_with fail
   go_roundw
   case rel=>exact ⟨k+1,by omega,by go_num,HK2,HB3⟩
   case measure=>simp [intOf];omega
  ·have hlt2:¬(k:Int)<(wl:Int):=by omega
   obtain rfl:k=wl:=by omega
   have HBK:=H_ (HBJ.out (by rw [HY.out (by omega) HK.out];rfl) _ HBr.out)
   have x0:=HXr.out.2 0 (by simp)
   have x1:=HXr.out.2 1 (by simp)
   have xL:=HXr.out.1
   simp only [List.getElem?_cons_zero,List.getElem?_cons_succ] at x0 x1
   clear HBJ HE
   go_wp2_with fail
   refine HBK.out.mono ?_
   rintro e w8 ⟨ao2,cap2,rfl,hm,hb8⟩
   have HMM:=H_ (hm.low HBr.out.size)
   have HBL:Hid (B1<wr.heap.size):=H_ HZr.out.1
   have HM7:=H_ hm
   have HB8:=H_ (HBr.out.trans (hb8.mono HBr.out.size))
   obtain ⟨zl,z0,z1,y0,y1⟩:=HZr.out.below hb8
   clear hm hb8 x0 x1 xL HBK
   generalize hn:O.1.length=n1 at *
   generalize hc2:O.2=c2 at *
   go_wp2_with fail
   refine bodyPost_ret (v:=.agg #[.slice ao2 n1 cap2,.int .i64 c2]) (by simp [results,Tryz.results7,go_sem,z0,z1]) rfl ⟨ao2,cap2,by rw [hc2,hn],?_,below2 HB8.out hBl _ _⟩
   exact made_two HM7.out HMM.out HBL.out
end BilR
namespace BilR
open LtR WinR LinR
open RowG (Rws cellsAll own_below getD_mem MadeG made_nil own_made)
open CatR (Me Ca mFd mN MsRight MRight IsCa IsMe caB crF crO atB rO mFd_hit)
open NetR (fnd)
theorem pl_ex (ms:List Me) (t:ByteArray):∃r,atB ms t r:=by
 have h:∀n,(∃k,k<n∧CatR.mN ms k=t∧∀i,i<k→CatR.mN ms i≠t)∨(∀i,i<n→CatR.mN ms i≠t):=by
  intro n
  induction n with
  | zero=>exact .inr (fun i h=>absurd h (by omega))
  | succ n ih =>
   rcases ih with ⟨k,hk,h1,h2⟩|h
   ·exact .inl ⟨k,by omega,h1,h2⟩
   ·by_cases e:CatR.mN ms n=t
    ·exact .inl ⟨n,by omega,e,h⟩
    ·refine .inr (fun i hi=>?_)
     by_cases q:i=n
     ·subst q;exact e
     ·exact h i (by omega)
 rcases h ms.length with ⟨k,hk,h1,h2⟩|h
 ·exact ⟨k,.inl ⟨k,hk,rfl,h1,h2⟩⟩
 ·exact ⟨-1,.inr ⟨rfl,h⟩⟩
theorem pl_one {ms:List Me} {t:ByteArray} {r r':Int} (h:atB ms t r) (h':atB ms t r'):r=r':=by
 rcases h with ⟨k,hk,rfl,h1,h2⟩|⟨rfl,h⟩<;>rcases h' with ⟨k',hk',rfl,h1',h2'⟩|⟨rfl,h'⟩
 ·rcases Nat.lt_trichotomy k k' with q|q|q
  ·exact (h2' k q h1).elim
  ·rw [q]
  ·exact (h2 k' q h1').elim
 ·exact absurd h1 (h' k hk)
 ·exact absurd h1' (h k' hk')
 ·rfl
theorem pl_has {ms:List Me} {t:ByteArray} {r:Int} (h:atB ms t r):hasM ms t=true↔0≤r:=by
 rcases h with ⟨k,hk,rfl,h1,h2⟩|⟨rfl,h⟩
 ·exact ⟨fun _=>by omega,fun _=>hasM_iff.2 ⟨k,hk,h1⟩⟩
 ·refine ⟨fun q=>?_,fun q=>by omega⟩
  obtain ⟨k,hk,e⟩:=hasM_iff.1 q
  exact absurd e (h k hk)
set_option maxHeartbeats 1000000 in
theorem spec_lbill (ma:Option Addr) (mc:Nat) (ca:Option Addr) (cc:Nat) (c:Ca) (a:ByteArray) (wo:Option Addr) (wc:Nat) (ws:List Wd) (W:World) (hwl:ws.length≤400) (hS:c.Small) (hsm:∀i,i<ws.length→(ws.getD i Wd.zero).Small)
 (hMes:CatR.Mes ma c.ms.length c.ms W) (hC:IsCa (.agg #[.slice ma c.ms.length mc,.slice ca c.cs.length cc]) c W) (t1:caB c=true) (t3:wsB ws=true) (hI:Wns wo ws W) :
 Calls Tryz.prog 37 #[.agg #[.slice ma c.ms.length mc,.slice ca c.cs.length cc],.string a,.slice wo ws.length wc] W fun e w'=>BlO W (billR c a ws) e w':=by
 have hmR:=(CatR.caB_iff.1 t1).1
 have hcsR:=(CatR.caB_iff.1 t1).2
 obtain ⟨ps,hps,hRw,hRd⟩:=wps_of hI
 have hpl:ps.length=ws.length:=by rw [←hps,List.length_map]
 have hgd:∀k,k<ps.length→(ps.getD k WP.zero).d=ws.getD k Wd.zero:=fun k hk=>by rw [←hps];simp [List.getD,hk]
 have hrd:∀k,k<ps.length→(ps.getD k WP.zero).Reads W:=fun k hk=>hRd _ (getD_mem ps k hk)
 obtain ⟨r,hr⟩:∃r:Nat→Int,∀k,atB c.ms (ps.getD k WP.zero).d.m (r k):=⟨fun k=>Classical.choose (pl_ex c.ms (ps.getD k WP.zero).d.m),fun k=>Classical.choose_spec (pl_ex c.ms (ps.getD k WP.zero).d.m)⟩
 have hwB:∀k,k<ps.length→wB (ps.getD k WP.zero).d=true:=fun k hk=>by rw [hgd k hk];exact wsB_all t3 _ (getD_mem ws k (by omega))
 have hall:(∀k,k<ps.length→ownF a (ps.getD k WP.zero)=true→0≤r k)→(ws.filter (ownW a)).all (fun x=>hasM c.ms x.m)=true:=by
  intro h
  rw [List.all_eq_true]
  intro x hx
  obtain ⟨h1,h2⟩:=List.mem_filter.1 hx
  obtain ⟨k,hk,rfl⟩:=List.getElem_of_mem h1
  have e:ws[k]=(ps.getD k WP.zero).d:=by rw [hgd k (by omega)];simp [List.getD,hk]
  rw [e] at h2 ⊢
  exact (pl_has (hr k)).2 (h k (by omega) h2)
 have hbl:bls a ps=srt Wd.m (ws.filter (ownW a)):=by unfold bls;rw [hps,hpl,jx_wds]
 have hin:∀x∈bls a ps,x∈ws∧ownW a x=true:=fun x hx=>by
  rw [hbl] at hx
  exact List.mem_filter.1 ((srt_perm _).mem_iff.1 hx)
 have hbr:(∀k,k<ps.length→ownF a (ps.getD k WP.zero)=true→0≤r k)→NoTwo a (ps.map WP.d) ps.length→billR c a ws=if ratC c.ms (bls a ps)≠0 then ([],ratC c.ms (bls a ps)) else (drawL (crF a c.cs) (((bls a ps).map (rN c.ms)).filter nz),0):=by
  intro h1 h2
  rw [hps,hpl] at h2
  unfold billR
  rw [if_neg (by rw [hall h1];exact fun e=>by cases e),if_neg (by rw [nodB_iff.2 (noTwo_all h2)];exact fun e=>by cases e),←hbl]
 have h:=sbill_in ma c.ms.length mc ca c.cs.length cc c.ms a wo wc ps (billR c a ws) (crF a c.cs) r W (by omega) hS.ml hRw ?_ ?_ ?_ ?_ ?_ ?_ ?_
 ·rw [hpl] at h;exact h
 ·intro k hk W2 hW2
  refine (CatR.spec_at ma mc ca c.cs.length cc c.ms _ W2 hS.ml (hMes.below hW2)).mono ?_
  rintro e w' ⟨r',rfl,h1,hb⟩
  exact ⟨by rw [pl_one h1 (hr k)],hb⟩
 ·intro k hk ho hn
  unfold billR
  rw [if_pos]
  cases hc:(ws.filter (ownW a)).all (fun x=>hasM c.ms x.m)
  ·rfl
  ·have h1:=List.all_eq_true.1 hc (ps.getD k WP.zero).d (List.mem_filter.2 ⟨by rw [hgd k hk];exact getD_mem ws k (by omega),ho⟩)
   have:=(pl_has (hr k)).1 h1
   omega
 ·intro h1 k hk ho hf
  unfold billR
  rw [if_neg (by rw [hall h1];exact fun e=>by cases e),if_pos]
  rw [hps,hgd k hk] at hf
  have h2:=two_of (a:=a) (ws:=ws) (k:=k) (by omega) (by rw [←hgd k hk];exact ho) hf
  cases hc:nodB ((ws.filter (ownW a)).map Wd.m)
  ·rfl
  ·exact absurd (nodB_iff.1 hc) h2
 ·intro k hk ho h0
  have hrk:=hr k
  rcases hrk with ⟨i,hi,e,h1,h2⟩|⟨e,_⟩
  ·have hme:=mFd_hit _ c.ms i hi h2 h1
   obtain ⟨b,off,rfl,hbW,hma⟩:=CatR.mes_at hMes i hi
   have hma':=hma
   obtain ⟨ta,tc,c0,c1,c2,c3,c4,c5,hT⟩:=hma'
   obtain ⟨f1,f2⟩:=has_found hmR ((pl_has (hr k)).2 h0)
   obtain ⟨s1,s2,s3,s4,s5⟩:=hsm k (by omega)
   rw [←hgd k hk] at s1 s2 s3 s4 s5
   refine ⟨b,off,i,(mFd (ps.getD k WP.zero).d.m c.ms).n,(mFd (ps.getD k WP.zero).d.m c.ms).g,(mFd (ps.getD k WP.zero).d.m c.ms).wh,(mFd (ps.getD k WP.zero).d.m c.ms).f,(mFd (ps.getD k WP.zero).d.m c.ms).l,ta,(mFd (ps.getD k WP.zero).d.m c.ms).ts.length,tc,rfl,e,hi,rfl,fun W2 hW2=>?_,fun W2 hW2=>?_,fun W2 hW2=>?_⟩
   ·rw [hme]
    have f:=fun x=>hW2.cell (p:=⟨b,x,none⟩) hbW
    exact ⟨by have:=hW2.size;omega,(f _).trans c0,(f _).trans c1,(f _).trans c2,(f _).trans c3,(f _).trans c4,(f _).trans c5⟩
   ·exact svalue_in _ _ _ _ _ _ _ _ _ _ (ps.getD k WP.zero).d.hs _ _ W2 s5 ((hrd k hk).below hW2).2
   ·exact CatR.spec_rate _ _ _ W2 f1 (valV_in (hwB k hk) _) ⟨ta,tc,rfl,by rw [hme];exact hT.below hW2⟩
  ·omega
 ·intro h1 h2 q hq2 h3 h4
  have h5:=ratC_hit hq2 h3 h4
  rw [hbr h1 h2,if_pos (by rw [h5];exact h4),h5]
 ·exact fun W2 hW2=>CatR.spec_cr0 _ c a W2 hS (hC.below hW2)
 ·intro h1 h2 h3 bo cap W2 hLi
  have h5:=ratC_none h3
  have hRS:Ris Wd.m (bls a ps):=by
   rw [hbl]
   refine srt_ris _ ?_
   rw [hps,hpl] at h2
   exact noTwo_all h2
  have hsr:SRight (((bls a ps).map (rN c.ms)).filter nz):=lines_right hmR hRS (fun x hx=>List.all_eq_true.1 (hall h1) x (by rw [hbl] at hx;exact (srt_perm _).mem_iff.1 hx)) (fun x hx=>wsB_all t3 _ (hin x hx).1) (fun x hx=>ratC_zero h5 x hx)
  rw [hbr h1 h2,if_neg (by rw [h5];exact fun h=>h rfl)]
  obtain ⟨q1,q2⟩:=cr_in hcsR a
  refine (spec_drawn0 bo cap _ (crF a c.cs) W2 hsr ⟨q1,by omega⟩ hLi).mono ?_
  rintro e w' ⟨v,rfl,ho,hb⟩
  obtain ⟨ao,cp,rfl,hm⟩:=own_made (cells:=N.cells) (k:=2) (z:=N.zero) N.len ho
  exact ⟨ao,cp,rfl,rfl,hm,hb⟩
end BilR
namespace BilR
open LtR WinR LinR
open CatR (Me Ca IsCa caB)
set_option maxHeartbeats 1000000 in
theorem spec_bill (cv:Value) (c:Ca) (a:ByteArray) (wo:Option Addr) (wc:Nat) (ws:List Wd) (w:World) (hwl:ws.length≤1048576) (ha:a.size≤1048576) (hS:c.Small) (hsm:∀i,i<ws.length→(ws.getD i Wd.zero).Small)
 (hC:IsCa cv c w) (hI:Wns wo ws w) :
 Calls Tryz.prog 7 #[cv,.string a,.slice wo ws.length wc] w fun e w'=>BlO w (billB c a ws) e w':=by
 have hO1:¬(8000<a.size∨400<ws.length)→(caB c&&NameR.nameB a&&wsB ws)=true→billB c a ws=billR c a ws:=fun h1 h2=>by unfold billB;rw [if_neg h1,if_pos h2]
 have hC':=hC
 obtain ⟨ma,mc,ca,cc,rfl,hMes,_⟩:=hC'
 refine sbo_in ma _ mc ca _ cc a wo wc ws (billB c a ws) (caB c) (NameR.nameB a) w hwl hI ?_ ?_ ?_ ?_ ?_ ?_
 ·exact fun h=>by unfold billB;rw [if_pos h]
 ·exact fun h1 h2=>by unfold billB;rw [if_neg h1,if_neg (by rw [h2];exact Bool.false_ne_true)]
 ·exact fun W hW=>CatR.spec_ca _ c W hS (hC.below hW)
 ·exact fun W=>(NameR.spec_any a W ha).mono (by rintro e w' ⟨h,rfl⟩;exact ⟨h,Below.refl _ _⟩)
 ·intro k hk ta tc h1 h2 W hW hT hH
  obtain ⟨s1,s2,s3,s4,s5⟩:=hsm k hk
  exact spec_window_right _ ta tc h1 h2 W s1 s2 s3 s4 hT hH
 ·intro hq ht W hW
  rw [hO1 hq ht]
  have ht':=ht
  simp only [Bool.and_eq_true] at ht'
  obtain ⟨⟨t1,t2⟩,t3⟩:=ht'
  exact spec_lbill ma mc ca cc c a wo wc ws W (by omega) hS hsm (hMes.below hW) (hC.below hW) t1 t3 (hI.below hW)
end BilR
end Go.Proofs.YtcilbmhkhllmjaaGreatDoor
