/-
  impl.BillOf over a catalog and windows. The conditions: sizes of at most 1048576; the program's variables hold what its text lays.
  spec.l08Bill over a right catalog and right windows says what impl.BillOf says. The conditions: sizes of at most 1048576.
  The windows of an account and month, picked out of an engine's: both sides. The condition: at most 1048576 windows.
-/
import Derived.Test.YtmalfhhkjdkadaaGreatDoorN31
namespace Go.Proofs.YtmalfhhkjdkadaaGreatDoor
open Go.ChangeShapes Go.WideShapes Go.ChangeAt Go.RowKit
set_option linter.unusedVariables false
namespace BilR
open LtR WinR LinR
open RowG (Rws cellsAll own_below getD_mem MadeG made_nil own_made)
open CatR (Me Ca mFd MsRight MRight IsCa caB crF crO)
def ownP (a:ByteArray) (ps:List WP):List WP:=ps.filter (ownF a)
theorem own_map (a:ByteArray):∀ps:List WP,(ownP a ps).map WP.d=(ps.map WP.d).filter (ownW a)
 | []=>rfl
 | p::ps=>by
  have ih:=own_map a ps
  unfold ownP at ih ⊢
  rw [List.filter_cons,List.map_cons,List.filter_cons]
  have e:ownF a p=ownW a p.d:=rfl
  rw [e]
  split
  ·rw [List.map_cons,ih]
  ·exact ih
theorem wsB_all {ws:List Wd} (h:wsB ws=true):∀x∈ws,wB x=true:=by
 unfold wsB at h
 rw [Bool.and_eq_true,List.all_eq_true] at h
 exact h.2
theorem ratC_zero {ms:List Me}:∀{l:List Wd},ratC ms l=0→∀x∈l,rC ms x=0
 | y::l,h,x,hx=>by
  unfold ratC at h
  by_cases q:rC ms y=0
  ·rw [if_pos q] at h
   rcases List.mem_cons.1 hx with rfl|h2
   ·exact q
   ·exact ratC_zero h x h2
  ·rw [if_neg q] at h;exact absurd h q
def PoO (a:ByteArray) (ps:List WP) (rs:List WP) (bo:Option Addr) (W:World):Prop:=rs.Perm (ownP a ps)∧rs.Pairwise (fun x y=>lt y.d.m x.d.m=false)∧Rws 8 WP.cells WP.zero bo rs W∧∀p∈rs,p.Reads W
def PcO (c:Ca) (a:ByteArray) (ps:List WP) (v:Value) (W:World):Prop:=∃rs gs bo cap,v=.slice bo gs.length cap∧rs.Perm (ownP a ps)∧Ris (fun p:WP=>p.d.m) rs∧(∀p∈rs,hasM c.ms p.d.m=true)∧Rws 3 CG.cells CG.zero bo gs W∧GsOk c.ms rs rs.length gs W
def PlO (c:Ca) (a:ByteArray) (O:List N × Int) (v:Value) (W:World):Prop:=∃L bo cap,v=.slice bo L.length cap∧O=(drawL (crF a c.cs) L,0)∧SRight L∧Lis bo L W
theorem srt_of {a:ByteArray} {ps rs:List WP} {ws:List Wd} (he:ps.map WP.d=ws) (hp:rs.Perm (ownP a ps)) (hr:Ris (fun p:WP=>p.d.m) rs):rs.map WP.d=srt Wd.m (ws.filter (ownW a)):=by
 refine srt_eq ?_ ?_
 ·exact List.pairwise_map.2 hr
 ·rw [←he,←own_map]
  exact hp.map _
theorem impl_bill (cv:Value) (c:Ca) (a:ByteArray) (wo:Option Addr) (wc:Nat) (ws:List Wd) (w:World) (hwl:ws.length≤1048576) (ha:a.size≤1048576) (hS:c.Small) (hsm:∀i,i<ws.length→(ws.getD i Wd.zero).Small)
 (hC:IsCa cv c w) (hL:CatR.Laid w) (hL2:DateR.Laid w) (hL3:FixR.Laid w) (hI:Wns wo ws w) :
 Calls Tryz.prog 75 #[cv,.string a,.slice wo ws.length wc] w fun e w'=>BlO w (billB c a ws) e w':=by
 obtain ⟨ps,hps,hRw,hRd⟩:=wps_of hI
 have hpl:ps.length=ws.length:=by rw [←hps,List.length_map]
 have hpm:∀p∈ps,p.d∈ws:=fun p hp=>by rw [←hps];exact List.mem_map.2 ⟨p,hp,rfl⟩
 have hsm':∀x∈ws,x.Small:=fun x hx=>by
  obtain ⟨i,hi,rfl⟩:=List.getElem_of_mem hx
  have:=hsm i hi
  rwa [show ws.getD i Wd.zero=ws[i] by simp [List.getD,hi]] at this
 have hO1:¬(8000<a.size∨400<ws.length)→(caB c&&NameR.nameB a&&wsB ws)=true→billB c a ws=billR c a ws:=fun h1 h2=>by unfold billB;rw [if_neg h1,if_pos h2]
 have hC':=hC
 obtain ⟨ma,mc,ca,cc,rfl,_⟩:=hC'
 refine ibill_in ma _ mc ca _ cc a wo ws.length wc (billB c a ws) (caB c) (NameR.nameB a) (wsB ws) (crO c a) (PoO a ps) (PcO c a ps) (PlO c a (billB c a ws)) w hwl ?_ ?_ ?_ ?_ ?_ ?_ ?_ ?_ ?_ ?_ ?_
 ·exact fun h=>by unfold billB;rw [if_pos h]
 ·exact fun h1 h2=>by unfold billB;rw [if_neg h1,if_neg (by rw [h2];exact Bool.false_ne_true)]
 ·exact fun W hW=>CatR.impl_ca _ c W hS (hC.below hW) (hL.below hW)
 ·exact fun W=>(NameR.impl_any a W ha).mono (by rintro e w' ⟨h,rfl⟩;exact ⟨h,Below.refl _ _⟩)
 ·refine fun W hW=>iwins_in wo wc ws W hwl (hI.below hW) (fun k hk ta tc h1 h2 W2 hW2 hT hH=>?_)
  obtain ⟨s1,s2,s3,s4,s5⟩:=hsm k hk
  exact impl_window_right _ ta tc h1 h2 W2 s1 s2 s3 s4 s5 ((hL2.below hW).below hW2) hT hH
 ·intro _ _ W hW
  have h:=windows_of wo wc ps a W (by omega) (hRw.below hW)
  rw [hpl] at h
  refine h.mono ?_
  rintro e w' ⟨bo,cap,rs,rfl,hp,hs,hr,hb⟩
  exact ⟨bo,cap,rs,rfl,⟨hp,hs,hr,fun p hp'=>((hRd p (List.mem_filter.1 (hp.mem_iff.1 hp')).1).below hW).below hb⟩,hb⟩
 ·intro hq ht rs bo cap W hPO hW
  obtain ⟨hp,hs,hr,hd⟩:=hPO
  have ht':=ht
  simp only [Bool.and_eq_true] at ht'
  obtain ⟨⟨t1,t2⟩,t3⟩:=ht'
  have hin:∀p∈rs,p.d∈ws:=fun p hp'=>hpm p (List.mem_filter.1 (hp.mem_iff.1 hp')).1
  have hlen:rs.length≤1048576:=by
   have h1:=hp.length_eq
   have h2:(ownP a ps).length≤ps.length:=List.length_filter_le ..
   omega
  refine (charges_of _ c bo cap rs W hlen hS (hC.below hW) t1 (hL.below hW) (hL2.below hW) hr hs hd (fun p hp'=>wsB_all t3 _ (hin p hp')) (fun p hp'=>hsm' _ (hin p hp'))).mono ?_
  rintro e w' ⟨hR,hb⟩
  refine ⟨?_,hb⟩
  have hmp:(rs.map WP.d).Perm (ws.filter (ownW a)):=by rw [←hps,←own_map];exact hp.map _
  have hall:(ws.filter (ownW a)).all (fun x=>hasM c.ms x.m)=true↔∀p∈rs,hasM c.ms p.d.m=true:=by
   rw [List.all_eq_true]
   constructor
   ·exact fun h p hp'=>h _ (hmp.mem_iff.1 (List.mem_map.2 ⟨p,hp',rfl⟩))
   ·intro h x hx
    obtain ⟨p,hp',rfl⟩:=List.mem_map.1 (hmp.mem_iff.2 hx)
    exact h p hp'
  have hnd:nodB ((ws.filter (ownW a)).map Wd.m)=true↔(rs.map (fun p:WP=>p.d.m)).Nodup:=by
   rw [nodB_iff,←(hmp.map Wd.m).nodup_iff,List.map_map];rfl
  rcases hR with ⟨v,rfl,p,hp',hn⟩|⟨hA,⟨v,rfl,hn⟩|⟨v,gs,rfl,hri,ho,hg⟩⟩
  ·refine ⟨v,6,rfl,.inl ⟨by decide,?_⟩⟩
   rw [hO1 hq ht]
   unfold billR
   rw [if_pos]
   cases hc:(ws.filter (ownW a)).all (fun x=>hasM c.ms x.m)
   ·rfl
   ·have:=hall.1 hc p hp';rw [hn] at this;cases this
  ·refine ⟨v,10,rfl,.inl ⟨by decide,?_⟩⟩
   rw [hO1 hq ht]
   unfold billR
   rw [if_neg (by rw [hall.2 hA];exact fun e=>by cases e),if_pos]
   cases hc:nodB ((ws.filter (ownW a)).map Wd.m)
   ·rfl
   ·exact absurd (hnd.1 hc) hn
  ·obtain ⟨ao,cp,rfl,hm⟩:=own_made (z:=CG.zero) CG.len ho
   exact ⟨_,0,rfl,.inr ⟨rfl,rs,gs,ao,cp,rfl,hp,hri,hA,hm.rws,hg⟩⟩
 ·intro hq ht v W hPC hW
  obtain ⟨rs,gs,bo,cap,rfl,hp,hri,hA,hr,hg⟩:=hPC
  have ht':=ht
  simp only [Bool.and_eq_true] at ht'
  obtain ⟨⟨t1,t2⟩,t3⟩:=ht'
  have hmR:=(CatR.caB_iff.1 t1).1
  have hin:∀p∈rs,p.d∈ws:=fun p hp'=>hpm p (List.mem_filter.1 (hp.mem_iff.1 hp')).1
  have hS':=srt_of hps hp hri
  obtain ⟨S,hSe⟩:∃S,S=srt Wd.m (ws.filter (ownW a)):=⟨_,rfl⟩
  rw [←hSe] at hS'
  have hsl:S.length=gs.length:=by rw [←hS',List.length_map,hg.1]
  have hmem:∀x∈S,∃p∈rs,p.d=x:=fun x hx=>by rw [←hS'] at hx;simpa using hx
  have hgd:∀i,i<gs.length→S.getD i Wd.zero=(rs.getD i WP.zero).d∧rs.getD i WP.zero∈rs:=fun i hi=>by
   have hi':i<rs.length:=by rw [←hg.1];exact hi
   refine ⟨?_,getD_mem rs i hi'⟩
   rw [←hS'];simp [List.getD,hi']
  have hall:(ws.filter (ownW a)).all (fun x=>hasM c.ms x.m)=true:=by
   rw [List.all_eq_true]
   intro x hx
   have hx':x∈S:=by rw [hSe];exact (srt_perm _).mem_iff.2 hx
   obtain ⟨p,hp',rfl⟩:=hmem x hx'
   exact hA p hp'
  have hRS:Ris Wd.m S:=by rw [←hS'];exact List.pairwise_map.2 hri
  have hnd:nodB ((ws.filter (ownW a)).map Wd.m)=true:=by
   rw [nodB_iff,←((srt_perm (f:=Wd.m) (ws.filter (ownW a))).map Wd.m).nodup_iff,←hSe]
   exact ris_nodup hRS
  have hO2:billB c a ws=if ratC c.ms S≠0 then ([],ratC c.ms S) else (drawL (crF a c.cs) ((S.map (rN c.ms)).filter nz),0):=by
   rw [hO1 hq ht]
   unfold billR
   rw [if_neg (by rw [hall];exact fun e=>by cases e),if_neg (by rw [hnd];exact fun e=>by cases e),←hSe]
  have hlen:gs.length≤1048576:=by
   have h1:=hp.length_eq
   have h2:(ownP a ps).length≤ps.length:=List.length_filter_le ..
   have:=hg.1
   omega
  have hfi:∀x∈S,MRight (mFd x.m c.ms)∧(mFd x.m c.ms).n=x.m∧wB x=true∧x.Small:=fun x hx=>by
   obtain ⟨p,hp',rfl⟩:=hmem x hx
   obtain ⟨f1,f2⟩:=has_found hmR (hA p hp')
   exact ⟨f1,f2,wsB_all t3 _ (hin p hp'),hsm' _ (hin p hp')⟩
  refine (rated_in c.ms S bo cap gs W hlen hsl hr (fun i hi=>?_) (fun i hi W2 hW2=>?_)).mono ?_
  ·obtain ⟨e1,e2⟩:=hgd i hi
   obtain ⟨f1,f2,f3,f4⟩:=hfi (S.getD i Wd.zero) (getD_mem S i (by omega))
   have e3:(rN c.ms (S.getD i Wd.zero)).i=(S.getD i Wd.zero).m:=f2
   rw [e3]
   refine ⟨?_,f4.2.1⟩
   rw [(hg.2 i (by rw [←hg.1];exact hi)).1,e1]
  ·obtain ⟨e1,e2⟩:=hgd i hi
   obtain ⟨f1,f2,f3,f4⟩:=hfi (S.getD i Wd.zero) (getD_mem S i (by omega))
   obtain ⟨g1,g2,g3⟩:=hg.2 i (by rw [←hg.1];exact hi)
   rw [e1] at f1 f2 f3 f4 ⊢
   rw [g2]
   exact CatR.impl_rate _ _ _ W2 ((hL3.below hW).below hW2) f1 (valV_in f3 _) (g3.below hW2).1
  ·rintro e w' ⟨hR,hb⟩
   refine ⟨?_,hb⟩
   rcases hR with ⟨hz,v,rfl⟩|⟨hz,v,rfl,ho⟩
   ·exact ⟨v,_,rfl,.inl ⟨hz,by rw [hO2,if_pos hz]⟩⟩
   ·obtain ⟨ao,cp,rfl,hm⟩:=own_made (cells:=N.cells) (k:=2) (z:=N.zero) (fun _=>rfl) ho
    refine ⟨_,0,rfl,.inr ⟨rfl,_,ao,cp,rfl,by rw [hO2,if_neg (by rw [hz];exact fun h=>h rfl)],lines_right hmR hRS (fun x hx=>?_) (fun x hx=>(hfi x hx).2.2.1) (fun x hx=>?_),hm.rws⟩⟩
    ·obtain ⟨p,hp',rfl⟩:=hmem x hx
     exact hA p hp'
    ·exact ratC_zero hz x hx
 ·rintro v W W' ⟨L,bo,cap,rfl,h1,h2,h3⟩ hb
  exact ⟨L,bo,cap,rfl,h1,h2,h3.below hb⟩
 ·exact fun W hW=>CatR.impl_cr _ c a W hS (hC.below hW) (hL.below hW)
 ·rintro hq ht v W ⟨L,bo,cap,rfl,h1,h2,h3⟩
  simp only [Bool.and_eq_true] at ht
  obtain ⟨⟨t1,t2⟩,t3⟩:=ht
  have hcr:crO c a=crF a c.cs:=by unfold crO;rw [if_pos t1]
  have hd:drawB (crO c a) L=drawL (crF a c.cs) L:=by
   unfold drawB
   obtain ⟨q1,q2⟩:=cr_in (CatR.caB_iff.1 t1).2 a
   rw [sB_iff.2 h2,hcr,decide_eq_true (by omega)];rfl
  refine (impl_drawn bo cap L (crO c a) W (by have:=h2.1;omega) (fun e he=>?_) h3).mono ?_
  ·obtain ⟨i,hi,rfl⟩:=List.getElem_of_mem he
   have:=(h2.2 i hi).2
   rw [show L.getD i N.zero=L[i] by simp [List.getD,hi]] at this
   unfold lOk at this
   simp only [Bool.and_eq_true] at this
   have:=(CatR.name_le this.1).2
   omega
  ·rintro e w' ⟨ao,cp,rfl,hm,hb⟩
   rw [hd] at hm ⊢
   rw [h1]
   exact ⟨ao,cp,rfl,rfl,hm,hb⟩
end BilR
namespace BilR
open LtR WinR LinR
open RowG (Rws cellsAll own_below getD_mem MadeG made_nil own_made)
open CatR (Me Ca mFd mN MsRight MRight IsCa IsMe caB crF crO atB rO mFd_hit)
open NetR (fnd)
theorem pl_ex (ms:List Me) (t:ByteArray):∃r,atB ms t r:=by
 have h:∀n,(∃k,k<n∧CatR.mN ms k=t∧∀i,i<k→CatR.mN ms i≠t)∨(∀i,i<n→CatR.mN ms i≠t):=by
  intro n
  induction n with
  | zero=>exact .inr (fun i h=>absurd h (by omega))
  | succ n ih =>
   rcases ih with ⟨k,hk,h1,h2⟩|h
   ·exact .inl ⟨k,by omega,h1,h2⟩
   ·by_cases e:CatR.mN ms n=t
    ·exact .inl ⟨n,by omega,e,h⟩
    ·refine .inr (fun i hi=>?_)
     by_cases q:i=n
     ·subst q;exact e
     ·exact h i (by omega)
 rcases h ms.length with ⟨k,hk,h1,h2⟩|h
 ·exact ⟨k,.inl ⟨k,hk,rfl,h1,h2⟩⟩
 ·exact ⟨-1,.inr ⟨rfl,h⟩⟩
theorem pl_one {ms:List Me} {t:ByteArray} {r r':Int} (h:atB ms t r) (h':atB ms t r'):r=r':=by
 rcases h with ⟨k,hk,rfl,h1,h2⟩|⟨rfl,h⟩<;>rcases h' with ⟨k',hk',rfl,h1',h2'⟩|⟨rfl,h'⟩
 ·rcases Nat.lt_trichotomy k k' with q|q|q
  ·exact (h2' k q h1).elim
  ·rw [q]
  ·exact (h2 k' q h1').elim
 ·exact absurd h1 (h' k hk)
 ·exact absurd h1' (h k' hk')
 ·rfl
theorem pl_has {ms:List Me} {t:ByteArray} {r:Int} (h:atB ms t r):hasM ms t=true↔0≤r:=by
 rcases h with ⟨k,hk,rfl,h1,h2⟩|⟨rfl,h⟩
 ·exact ⟨fun _=>by omega,fun _=>hasM_iff.2 ⟨k,hk,h1⟩⟩
 ·refine ⟨fun q=>?_,fun q=>by omega⟩
  obtain ⟨k,hk,e⟩:=hasM_iff.1 q
  exact absurd e (h k hk)
set_option maxHeartbeats 1000000 in
theorem spec_lbill (ma:Option Addr) (mc:Nat) (ca:Option Addr) (cc:Nat) (c:Ca) (a:ByteArray) (wo:Option Addr) (wc:Nat) (ws:List Wd) (W:World) (hwl:ws.length≤400) (hS:c.Small) (hsm:∀i,i<ws.length→(ws.getD i Wd.zero).Small)
 (hMes:CatR.Mes ma c.ms.length c.ms W) (hC:IsCa (.agg #[.slice ma c.ms.length mc,.slice ca c.cs.length cc]) c W) (t1:caB c=true) (t3:wsB ws=true) (hI:Wns wo ws W) :
 Calls Tryz.prog 21 #[.agg #[.slice ma c.ms.length mc,.slice ca c.cs.length cc],.string a,.slice wo ws.length wc] W fun e w'=>BlO W (billR c a ws) e w':=by
 have hmR:=(CatR.caB_iff.1 t1).1
 have hcsR:=(CatR.caB_iff.1 t1).2
 obtain ⟨ps,hps,hRw,hRd⟩:=wps_of hI
 have hpl:ps.length=ws.length:=by rw [←hps,List.length_map]
 have hgd:∀k,k<ps.length→(ps.getD k WP.zero).d=ws.getD k Wd.zero:=fun k hk=>by rw [←hps];simp [List.getD,hk]
 have hrd:∀k,k<ps.length→(ps.getD k WP.zero).Reads W:=fun k hk=>hRd _ (getD_mem ps k hk)
 obtain ⟨r,hr⟩:∃r:Nat→Int,∀k,atB c.ms (ps.getD k WP.zero).d.m (r k):=⟨fun k=>Classical.choose (pl_ex c.ms (ps.getD k WP.zero).d.m),fun k=>Classical.choose_spec (pl_ex c.ms (ps.getD k WP.zero).d.m)⟩
 have hwB:∀k,k<ps.length→wB (ps.getD k WP.zero).d=true:=fun k hk=>by rw [hgd k hk];exact wsB_all t3 _ (getD_mem ws k (by omega))
 have hall:(∀k,k<ps.length→ownF a (ps.getD k WP.zero)=true→0≤r k)→(ws.filter (ownW a)).all (fun x=>hasM c.ms x.m)=true:=by
  intro h
  rw [List.all_eq_true]
  intro x hx
  obtain ⟨h1,h2⟩:=List.mem_filter.1 hx
  obtain ⟨k,hk,rfl⟩:=List.getElem_of_mem h1
  have e:ws[k]=(ps.getD k WP.zero).d:=by rw [hgd k (by omega)];simp [List.getD,hk]
  rw [e] at h2 ⊢
  exact (pl_has (hr k)).2 (h k (by omega) h2)
 have hbl:bls a ps=srt Wd.m (ws.filter (ownW a)):=by unfold bls;rw [hps,hpl,jx_wds]
 have hin:∀x∈bls a ps,x∈ws∧ownW a x=true:=fun x hx=>by
  rw [hbl] at hx
  exact List.mem_filter.1 ((srt_perm _).mem_iff.1 hx)
 have hbr:(∀k,k<ps.length→ownF a (ps.getD k WP.zero)=true→0≤r k)→NoTwo a (ps.map WP.d) ps.length→billR c a ws=if ratC c.ms (bls a ps)≠0 then ([],ratC c.ms (bls a ps)) else (drawL (crF a c.cs) (((bls a ps).map (rN c.ms)).filter nz),0):=by
  intro h1 h2
  rw [hps,hpl] at h2
  unfold billR
  rw [if_neg (by rw [hall h1];exact fun e=>by cases e),if_neg (by rw [nodB_iff.2 (noTwo_all h2)];exact fun e=>by cases e),←hbl]
 have h:=sbill_in ma c.ms.length mc ca c.cs.length cc c.ms a wo wc ps (billR c a ws) (crF a c.cs) r W (by omega) hS.ml hRw ?_ ?_ ?_ ?_ ?_ ?_ ?_
 ·rw [hpl] at h;exact h
 ·intro k hk W2 hW2
  refine (CatR.spec_at ma mc ca c.cs.length cc c.ms _ W2 hS.ml (hMes.below hW2)).mono ?_
  rintro e w' ⟨r',rfl,h1,hb⟩
  exact ⟨by rw [pl_one h1 (hr k)],hb⟩
 ·intro k hk ho hn
  unfold billR
  rw [if_pos]
  cases hc:(ws.filter (ownW a)).all (fun x=>hasM c.ms x.m)
  ·rfl
  ·have h1:=List.all_eq_true.1 hc (ps.getD k WP.zero).d (List.mem_filter.2 ⟨by rw [hgd k hk];exact getD_mem ws k (by omega),ho⟩)
   have:=(pl_has (hr k)).1 h1
   omega
 ·intro h1 k hk ho hf
  unfold billR
  rw [if_neg (by rw [hall h1];exact fun e=>by cases e),if_pos]
  rw [hps,hgd k hk] at hf
  have h2:=two_of (a:=a) (ws:=ws) (k:=k) (by omega) (by rw [←hgd k hk];exact ho) hf
  cases hc:nodB ((ws.filter (ownW a)).map Wd.m)
  ·rfl
  ·exact absurd (nodB_iff.1 hc) h2
 ·intro k hk ho h0
  have hrk:=hr k
  rcases hrk with ⟨i,hi,e,h1,h2⟩|⟨e,_⟩
  ·have hme:=mFd_hit _ c.ms i hi h2 h1
   obtain ⟨b,off,rfl,hbW,hma⟩:=CatR.mes_at hMes i hi
   have hma':=hma
   obtain ⟨ta,tc,c0,c1,c2,c3,c4,c5,hT⟩:=hma'
   obtain ⟨f1,f2⟩:=has_found hmR ((pl_has (hr k)).2 h0)
   obtain ⟨s1,s2,s3,s4,s5⟩:=hsm k (by omega)
   rw [←hgd k hk] at s1 s2 s3 s4 s5
   refine ⟨b,off,i,(mFd (ps.getD k WP.zero).d.m c.ms).n,(mFd (ps.getD k WP.zero).d.m c.ms).g,(mFd (ps.getD k WP.zero).d.m c.ms).wh,(mFd (ps.getD k WP.zero).d.m c.ms).f,(mFd (ps.getD k WP.zero).d.m c.ms).l,ta,(mFd (ps.getD k WP.zero).d.m c.ms).ts.length,tc,rfl,e,hi,rfl,fun W2 hW2=>?_,fun W2 hW2=>?_,fun W2 hW2=>?_⟩
   ·rw [hme]
    have f:=fun x=>hW2.cell (p:=⟨b,x,none⟩) hbW
    exact ⟨by have:=hW2.size;omega,(f _).trans c0,(f _).trans c1,(f _).trans c2,(f _).trans c3,(f _).trans c4,(f _).trans c5⟩
   ·exact svalue_in _ _ _ _ _ _ _ _ _ _ (ps.getD k WP.zero).d.hs _ _ W2 s5 ((hrd k hk).below hW2).2
   ·exact CatR.spec_rate _ _ _ W2 f1 (valV_in (hwB k hk) _) ⟨ta,tc,rfl,by rw [hme];exact hT.below hW2⟩
  ·omega
 ·intro h1 h2 q hq2 h3 h4
  have h5:=ratC_hit hq2 h3 h4
  rw [hbr h1 h2,if_pos (by rw [h5];exact h4),h5]
 ·exact fun W2 hW2=>CatR.spec_cr0 _ c a W2 hS (hC.below hW2)
 ·intro h1 h2 h3 bo cap W2 hLi
  have h5:=ratC_none h3
  have hRS:Ris Wd.m (bls a ps):=by
   rw [hbl]
   refine srt_ris _ ?_
   rw [hps,hpl] at h2
   exact noTwo_all h2
  have hsr:SRight (((bls a ps).map (rN c.ms)).filter nz):=lines_right hmR hRS (fun x hx=>List.all_eq_true.1 (hall h1) x (by rw [hbl] at hx;exact (srt_perm _).mem_iff.1 hx)) (fun x hx=>wsB_all t3 _ (hin x hx).1) (fun x hx=>ratC_zero h5 x hx)
  rw [hbr h1 h2,if_neg (by rw [h5];exact fun h=>h rfl)]
  obtain ⟨q1,q2⟩:=cr_in hcsR a
  refine (spec_drawn0 bo cap _ (crF a c.cs) W2 hsr ⟨q1,by omega⟩ hLi).mono ?_
  rintro e w' ⟨v,rfl,ho,hb⟩
  obtain ⟨ao,cp,rfl,hm⟩:=own_made (cells:=N.cells) (k:=2) (z:=N.zero) N.len ho
  exact ⟨ao,cp,rfl,rfl,hm,hb⟩
end BilR
namespace BilR
open LtR WinR
open RowG (Rws cellsAll cellsAll_app own_below own_made getD_mem take_more)
open CatR (Blk Blk.new)
def inW (a:ByteArray) (m:Int) (x:Wd):Bool:=x.a.toList==a.toList&&decide (x.mo=m)
def inP (a:ByteArray) (m:Int) (p:WP):Bool:=inW a m p.d
theorem in_map (a:ByteArray) (m:Int):∀ps:List WP,(ps.filter (inP a m)).map WP.d=(ps.map WP.d).filter (inW a m)
 | []=>rfl
 | p::ps=>by
  have ih:=in_map a m ps
  rw [List.filter_cons,List.map_cons,List.filter_cons]
  have e:inP a m p=inW a m p.d:=rfl
  rw [e]
  split
  ·rw [List.map_cons,ih]
  ·exact ih
theorem wns_of {ao:Option Addr} {ps:List WP} {w:World} (h:Rws 8 WP.cells WP.zero ao ps w) (hr:∀p∈ps,p.Reads w):Wns ao (ps.map WP.d) w:=by
 rcases h with h0|⟨b,off,rfl,hl,hc⟩
 ·exact .inl (by rw [List.length_map];exact h0)
 ·refine .inr ⟨b,off,rfl,hl,fun j hj=>?_⟩
  rw [List.length_map] at hj
  have e:(ps.map WP.d).getD j Wd.zero=(ps.getD j WP.zero).d:=by simp [List.getD,hj]
  rw [e]
  have f:=fun i hi=>hc j hj i hi
  obtain ⟨hT,hH⟩:=hr _ (getD_mem (z:=WP.zero) ps j hj)
  exact ⟨_,_,_,_,f 0 (by omega),f 1 (by omega),f 2 (by omega),f 3 (by omega),f 4 (by omega),f 5 (by omega),f 6 (by omega),f 7 (by omega),hT,hH⟩
set_option maxRecDepth 100000 in
set_option maxHeartbeats 4000000 in
theorem windows_in (ao:Option Addr) (cap:Nat) (ps:List WP) (a:ByteArray) (m:Int) (w:World) (hlen:ps.length≤1048576) (hI:Rws 8 WP.cells WP.zero ao ps w) :
 Calls Tryz.prog 76 #[.slice ao ps.length cap,.agg #[.string a,.int .i64 m]] w fun e w'=>∃bo cap',e=.returned (.slice bo (ps.filter (inP a m)).length cap')∧Rws 8 WP.cells WP.zero bo (ps.filter (inP a m)) w'∧Below w.heap.size w w':=by
 obtain ⟨i0,hi,hz0,hz1,hz2⟩:=info_parts infoW8
 have HI:=hid_intro hI
 obtain ⟨len,hl⟩:∃len,len=ps.length:=⟨_,rfl⟩
 rw [←hl] at hlen ⊢
 have HL:=hid_intro hl
 have HEND:Hid (ps.take len=ps):=hid_intro (List.take_of_length_le (by omega))
 clear hI hl
 obtain ⟨W0,hW0⟩:∃z,z=w.alloc (.cells #[.string a,.int .i64 m] 70):=⟨_,rfl⟩
 have HB0:Hid (Below w.heap.size w W0):=hid_intro (by rw [hW0];exact (Below.refl _ _).alloc (Nat.le_refl _) _)
 have HP:Hid (Blk w.heap.size [.string a,.int .i64 m] W0):=hid_intro (by rw [hW0];exact Blk.new w _ _)
 have HI:=hid_intro (HI.out.below HB0.out)
 have HW:=hid_intro hW0
 clear hW0
 go_enter Tryz.func76,Tryz.ntmps76
 go_wp2_with fail
 rw [←HW.out]
 clear HW
 go_loopw [5,10] (fun v z wr=>∃k:Nat,k≤len∧z=.int .i64 k∧Hid (wr.ownsRow W0.heap.size 107 8 v ((ps.take k).filter (inP a m)).length (cellsAll WP.cells ((ps.take k).filter (inP a m))))∧Hid (Below W0.heap.size W0 wr)) (fun v z _=>len-(intOf z).toNat)
 case atStart=>exact ⟨0,by omega,rfl,hid_intro (World.ownsRow_nil _ _ _ _),hid_intro (Below.refl _ _)⟩
 case round =>
  obtain ⟨k,hk,rfl,HO,HB⟩:=hrel
  by_cases hlt:k<len
  ·have hlt2:(k:Int)<(len:Int):=by omega
   obtain ⟨b',off,rfl,hbl,hc⟩:=rws_at (HI.out.below HB.out) k (by have:=HL.out;omega)
   have HF:=hid_intro (filter_moreW (inP a m) ps k (by have:=HL.out;omega))
   have HLF:Hid (((ps.take k).filter (inP a m)).length≤1048576):=hid_intro (by
    have h1:=List.length_filter_le (inP a m) (ps.take k)
    have h2:=List.length_take_le k ps
    omega)
   obtain ⟨F,hF⟩:∃F,F=(ps.take k).filter (inP a m):=⟨_,rfl⟩
   rw [←hF] at HO HF HLF
   clear hF
   generalize ps.getD k WP.zero=X at *
   obtain ⟨⟨xa,xm,xo,xe,xs,xx,xt,xh⟩,ta,tc,ha,hc'⟩:=X
   have c0:=hc 0 (by omega)
   have c1:=hc 1 (by omega)
   have c2:=hc 2 (by omega)
   have c3:=hc 3 (by omega)
   have c4:=hc 4 (by omega)
   have c5:=hc 5 (by omega)
   have c6:=hc 6 (by omega)
   have c7:=hc 7 (by omega)
   simp only [WP.cells,List.getElem?_cons_zero,List.getElem?_cons_succ,Nat.add_zero] at c0 c1 c2 c3 c4 c5 c6 c7
   have HOW:Hid (∀j u,(WP.cells ⟨⟨xa,xm,xo,xe,xs,xx,xt,xh⟩,ta,tc,ha,hc'⟩)[j]? = some u→∀W:World,∀T,(W.alloc (.cells #[.string xa,.string xm,.int .i64 xo,.int .i64 xe,.int .i64 xs,.int .i64 xx,.slice ta xt.length tc,.slice ha xh.length hc'] T)).cell? ((⟨W.heap.size,0,none⟩:Addr).add j)=some u):=hid_intro (by
    intro j u hx W T
    have hB:=(Blk.new W (WP.cells ⟨⟨xa,xm,xo,xe,xs,xx,xt,xh⟩,ta,tc,ha,hc'⟩) T).2 j (by have:=(List.getElem?_eq_some_iff.1 hx).1;exact this)
    rw [hx] at hB
    have e:((⟨W.heap.size,0,none⟩:Addr).add j)=⟨W.heap.size,j,none⟩:=by
     by_cases h:j=0
     ·subst h;simp [Addr.add]
     ·simp [Addr.add,h]
    rw [e]
    exact hB)
   have HOF:Hid (inP a m ⟨⟨xa,xm,xo,xe,xs,xx,xt,xh⟩,ta,tc,ha,hc'⟩=((xa.toList==a.toList)&&decide (xo=m))):=hid_intro rfl
   clear hc
   have p0:wr.cell? ⟨w.heap.size,0,none⟩=some (.string a):=(HP.out.below HB.out).2 0 (by simp)
   have p1:wr.cell? ⟨w.heap.size,1,none⟩=some (.int .i64 m):=(HP.out.below HB.out).2 1 (by simp)
   have pL:w.heap.size<wr.heap.size:=(HP.out.below HB.out).1
   cases hq:(xa.toList==a.toList)
   ·rw [HOF.out,hq,Bool.false_and,cond_false,List.append_nil] at HF
    generalize xt.length=l1 at *
    generalize xh.length=l2 at *
    clear HOW
    go_wp2_with fail
    go_roundw
    case rel=>exact ⟨k+1,by omega,by go_num,hid_intro (by rw [HF.out];exact HO.out.alloc _),hid_intro (HB.out.alloc HB.out.size _)⟩
    case measure=>simp [intOf];omega
   by_cases hm:xo=m
   rotate_left
   ·rw [HOF.out,hq,Bool.true_and,decide_eq_false hm,cond_false,List.append_nil] at HF
    generalize xt.length=l1 at *
    generalize xh.length=l2 at *
    clear HOW
    go_wp2_with fail
    go_roundw
    case rel=>exact ⟨k+1,by omega,by go_num,hid_intro (by rw [HF.out];exact HO.out.alloc _),hid_intro (HB.out.alloc HB.out.size _)⟩
    case measure=>simp [intOf];omega
   subst hm
   rw [HOF.out,hq,Bool.true_and,decide_eq_true rfl,cond_true] at HF
   obtain ⟨l1,hl1⟩:∃n,n=xt.length:=⟨_,rfl⟩
   obtain ⟨l2,hl2⟩:∃n,n=xh.length:=⟨_,rfl⟩
   have HL1:=hid_intro hl1
   have HL2:=hid_intro hl2
   rw [←hl1] at c6
   rw [←hl2] at c7
   simp only [WP.cells,←hl1,←hl2] at HOW
   clear hl1 hl2
   obtain ⟨W1,hW1⟩:∃z,z=wr.alloc (.cells #[.string xa,.string xm,.int .i64 xo,.int .i64 xe,.int .i64 xs,.int .i64 xx,.slice ta l1 tc,.slice ha l2 hc'] 107):=⟨_,rfl⟩
   have HB1:Hid (Below W0.heap.size W0 W1):=hid_intro (by rw [hW1];exact HB.out.alloc HB.out.size _)
   have HO1:Hid (W1.ownsRow W0.heap.size 107 8 u5 F.length (cellsAll WP.cells F)):=hid_intro (by rw [hW1];exact HO.out.alloc _)
   have HS1:Hid (W1.heap.size=wr.heap.size+1):=hid_intro (by rw [hW1];simp)
   have HW1:=hid_intro hW1
   clear hW1
   have d1:∀j u,([.string xa,.string xm,.int .i64 xo,.int .i64 xe,.int .i64 xs,.int .i64 xx,.slice ta l1 tc,.slice ha l2 hc']:List Value)[j]? = some u→(W1.alloc (.cells #[.string xa,.string xm,.int .i64 xo,.int .i64 xe,.int .i64 xs,.int .i64 xx,.slice ta l1 tc,.slice ha l2 hc'] 107)).cell? ((⟨wr.heap.size+1,0,none⟩:Addr).add j)=some u:=fun j u hx=>by
    have h:=HOW.out j u hx W1 107
    rw [HS1.out] at h
    exact h
   have d2:∀u∈([.string xa,.string xm,.int .i64 xo,.int .i64 xe,.int .i64 xs,.int .i64 xx,.slice ta l1 tc,.slice ha l2 hc']:List Value),u.oneCell'=true:=fun u hu=>by
    simp only [List.mem_cons,List.not_mem_nil,or_false] at hu
    rcases hu with rfl|rfl|rfl|rfl|rfl|rfl|rfl|rfl<;>rfl
   have d3:F.length+1≤maxLen:=by unfold maxLen;have:=HLF.out;omega
   have d4:(F.length+1)*112≤140737488355328:=by have:=HLF.out;omega
   have d5:W0.heap.size≤(W1.alloc (.cells #[.string xa,.string xm,.int .i64 xo,.int .i64 xe,.int .i64 xs,.int .i64 xx,.slice ta l1 tc,.slice ha l2 hc'] 107)).heap.size:=by have h1:=HB1.out.size;simp;omega
   go_wp2_with (at_builtin;rw [←HW1.out];refine wpList_append_own _ rfl _ _ 43 rfl W0.heap.size 107 i0 (.agg #[.string ⟨#[]⟩,.string ⟨#[]⟩,.int .i64 0,.int .i64 0,.int .i64 0,.int .i64 0,.slice none 0 0,.slice none 0 0]) 8 112 Tryz.underlying43 hi hz0 hz1 hz2 rfl (by decide) _ _ _ rfl (HO1.out.alloc _) ⟨wr.heap.size+1,0,none⟩ 1 1 [.string xa,.string xm,.int .i64 xo,.int .i64 xe,.int .i64 xs,.int .i64 xx,.slice ta l1 tc,.slice ha l2 hc'] rfl rfl d1 d2 d3 d4 d5 ?_)
   intro v' w4 hown hgrow hne
   clear d1 d2 d3 d4 d5
   have hob:∀c,u5.ownBlock=some c→W0.heap.size≤c:=fun c hc=>(HO1.out.lt c hc).1
   have HO4:Hid (w4.ownsRow W0.heap.size 107 8 v' (F ++ [(⟨⟨xa,xm,xo,xe,xs,xx,xt,xh⟩,ta,tc,ha,hc'⟩:WP)]).length (cellsAll WP.cells (F ++ [(⟨⟨xa,xm,xo,xe,xs,xx,xt,xh⟩,ta,tc,ha,hc'⟩:WP)]))):=hid_intro (by rw [cellsAll_app,List.length_append];simp only [WP.cells,←HL1.out,←HL2.out];exact hown)
   have HB4:Hid (Below W0.heap.size W0 w4):=hid_intro ((HB1.out.alloc HB1.out.size _).grown hgrow (HB1.out.alloc HB1.out.size _).size (fun c e=>hob c e))
   clear hown hgrow hne hob
   go_wp2_with fail
   go_roundw
   case rel=>exact ⟨k+1,by omega,by go_num,hid_intro (by rw [HF.out];exact HO4.out),HB4⟩
   case measure=>simp [intOf];omega
  ·have hlt2:¬(k:Int)<(len:Int):=by omega
   obtain rfl:k=len:=by omega
   rw [HEND.out] at HO
   obtain ⟨bo,cap',rfl,hm⟩:=own_made (z:=WP.zero) WP.len HO.out
   have HM:=hid_intro hm.rws
   clear hm HO
   generalize hfl:(ps.filter (inP a m)).length=fl at *
   go_wp2_with fail
   go_ret
   exact ⟨bo,⟨cap',rfl⟩,HM.out,HB0.out.trans (HB.out.mono HB0.out.size)⟩
set_option maxRecDepth 100000 in
set_option maxHeartbeats 4000000 in
theorem l10_of (ao:Option Addr) (cap:Nat) (ps:List WP) (a:ByteArray) (m:Int) (w:World) (hlen:ps.length≤1048576) (hI:Rws 8 WP.cells WP.zero ao ps w) :
 Calls Tryz.prog 22 #[.slice ao ps.length cap,.string a,.int .i64 m] w fun e w'=>∃bo cap',e=.returned (.slice bo (ps.filter (inP a m)).length cap')∧Rws 8 WP.cells WP.zero bo (ps.filter (inP a m)) w'∧Below w.heap.size w w':=by
 obtain ⟨i0,hi,hz0,hz1,hz2⟩:=info_parts infoW8
 have HI:=hid_intro hI
 obtain ⟨len,hl⟩:∃len,len=ps.length:=⟨_,rfl⟩
 rw [←hl] at hlen ⊢
 have HL:=hid_intro hl
 have HEND:Hid (ps.take len=ps):=hid_intro (List.take_of_length_le (by omega))
 clear hI hl
 go_enter Tryz.func22,Tryz.ntmps22
 go_wp2_with fail
 go_loopw [7,8] (fun v z wr=>∃k:Nat,k≤len∧z=.int .i64 k∧Hid (wr.ownsRow w.heap.size 107 8 v ((ps.take k).filter (inP a m)).length (cellsAll WP.cells ((ps.take k).filter (inP a m))))∧Hid (Below w.heap.size w wr)) (fun v z _=>len-(intOf z).toNat)
 case atStart=>exact ⟨0,by omega,rfl,hid_intro (World.ownsRow_made w #[] 0 (Nat.le_refl _) (by unfold maxLen;omega) (by simp)),hid_intro ((Below.refl _ _).alloc (Nat.le_refl _) _)⟩
 case round =>
  obtain ⟨k,hk,rfl,HO,HB⟩:=hrel
  by_cases hlt:k<len
  ·have hlt2:(k:Int)<(len:Int):=by omega
   obtain ⟨b',off,rfl,hbl,hc⟩:=rws_at (HI.out.below HB.out) k (by have:=HL.out;omega)
   have HF:=hid_intro (filter_moreW (inP a m) ps k (by have:=HL.out;omega))
   have HLF:Hid (((ps.take k).filter (inP a m)).length≤1048576):=hid_intro (by
    have h1:=List.length_filter_le (inP a m) (ps.take k)
    have h2:=List.length_take_le k ps
    omega)
   obtain ⟨F,hF⟩:∃F,F=(ps.take k).filter (inP a m):=⟨_,rfl⟩
   rw [←hF] at HO HF HLF
   clear hF
   generalize ps.getD k WP.zero=X at *
   obtain ⟨⟨xa,xm,xo,xe,xs,xx,xt,xh⟩,ta,tc,ha,hc'⟩:=X
   have c0:=hc 0 (by omega)
   have c1:=hc 1 (by omega)
   have c2:=hc 2 (by omega)
   have c3:=hc 3 (by omega)
   have c4:=hc 4 (by omega)
   have c5:=hc 5 (by omega)
   have c6:=hc 6 (by omega)
   have c7:=hc 7 (by omega)
   simp only [WP.cells,List.getElem?_cons_zero,List.getElem?_cons_succ,Nat.add_zero] at c0 c1 c2 c3 c4 c5 c6 c7
   have HOW:Hid (∀j u,(WP.cells ⟨⟨xa,xm,xo,xe,xs,xx,xt,xh⟩,ta,tc,ha,hc'⟩)[j]? = some u→∀W:World,∀T,(W.alloc (.cells #[.string xa,.string xm,.int .i64 xo,.int .i64 xe,.int .i64 xs,.int .i64 xx,.slice ta xt.length tc,.slice ha xh.length hc'] T)).cell? ((⟨W.heap.size,0,none⟩:Addr).add j)=some u):=hid_intro (by
    intro j u hx W T
    have hB:=(Blk.new W (WP.cells ⟨⟨xa,xm,xo,xe,xs,xx,xt,xh⟩,ta,tc,ha,hc'⟩) T).2 j (by have:=(List.getElem?_eq_some_iff.1 hx).1;exact this)
    rw [hx] at hB
    have e:((⟨W.heap.size,0,none⟩:Addr).add j)=⟨W.heap.size,j,none⟩:=by
     by_cases h:j=0
     ·subst h;simp [Addr.add]
     ·simp [Addr.add,h]
    rw [e]
    exact hB)
   have HOF:Hid (inP a m ⟨⟨xa,xm,xo,xe,xs,xx,xt,xh⟩,ta,tc,ha,hc'⟩=((xa.toList==a.toList)&&decide (xo=m))):=hid_intro rfl
   clear hc
   cases hq:(xa.toList==a.toList)
   ·rw [HOF.out,hq,Bool.false_and,cond_false,List.append_nil] at HF
    generalize xt.length=l1 at *
    generalize xh.length=l2 at *
    clear HOW
    go_wp2_with fail
    go_roundw
    case rel=>exact ⟨k+1,by omega,by go_num,hid_intro (by rw [HF.out];exact HO.out),hid_intro (HB.out)⟩
    case measure=>simp [intOf];omega
   by_cases hm:xo=m
   rotate_left
   ·rw [HOF.out,hq,Bool.true_and,decide_eq_false hm,cond_false,List.append_nil] at HF
    generalize xt.length=l1 at *
    generalize xh.length=l2 at *
    clear HOW
    go_wp2_with fail
    go_roundw
    case rel=>exact ⟨k+1,by omega,by go_num,hid_intro (by rw [HF.out];exact HO.out),hid_intro (HB.out)⟩
    case measure=>simp [intOf];omega
   subst hm
   rw [HOF.out,hq,Bool.true_and,decide_eq_true rfl,cond_true] at HF
   obtain ⟨l1,hl1⟩:∃n,n=xt.length:=⟨_,rfl⟩
   obtain ⟨l2,hl2⟩:∃n,n=xh.length:=⟨_,rfl⟩
   have HL1:=hid_intro hl1
   have HL2:=hid_intro hl2
   rw [←hl1] at c6
   rw [←hl2] at c7
   simp only [WP.cells,←hl1,←hl2] at HOW
   clear hl1 hl2
   have d1:∀j u,([.string xa,.string xm,.int .i64 xo,.int .i64 xe,.int .i64 xs,.int .i64 xx,.slice ta l1 tc,.slice ha l2 hc']:List Value)[j]? = some u→(wr.alloc (.cells #[.string xa,.string xm,.int .i64 xo,.int .i64 xe,.int .i64 xs,.int .i64 xx,.slice ta l1 tc,.slice ha l2 hc'] 107)).cell? ((⟨wr.heap.size,0,none⟩:Addr).add j)=some u:=fun j u hx=>by
    have h:=HOW.out j u hx wr 107
    exact h
   have d2:∀u∈([.string xa,.string xm,.int .i64 xo,.int .i64 xe,.int .i64 xs,.int .i64 xx,.slice ta l1 tc,.slice ha l2 hc']:List Value),u.oneCell'=true:=fun u hu=>by
    simp only [List.mem_cons,List.not_mem_nil,or_false] at hu
    rcases hu with rfl|rfl|rfl|rfl|rfl|rfl|rfl|rfl<;>rfl
   have d3:F.length+1≤maxLen:=by unfold maxLen;have:=HLF.out;omega
   have d4:(F.length+1)*112≤140737488355328:=by have:=HLF.out;omega
   have d5:w.heap.size≤(wr.alloc (.cells #[.string xa,.string xm,.int .i64 xo,.int .i64 xe,.int .i64 xs,.int .i64 xx,.slice ta l1 tc,.slice ha l2 hc'] 107)).heap.size:=by have h1:=HB.out.size;simp;omega
   go_wp2_with (at_builtin;refine wpList_append_own _ rfl _ _ 43 rfl w.heap.size 107 i0 (.agg #[.string ⟨#[]⟩,.string ⟨#[]⟩,.int .i64 0,.int .i64 0,.int .i64 0,.int .i64 0,.slice none 0 0,.slice none 0 0]) 8 112 Tryz.underlying43 hi hz0 hz1 hz2 rfl (by decide) _ _ _ rfl (HO.out.alloc _) ⟨wr.heap.size,0,none⟩ 1 1 [.string xa,.string xm,.int .i64 xo,.int .i64 xe,.int .i64 xs,.int .i64 xx,.slice ta l1 tc,.slice ha l2 hc'] rfl rfl d1 d2 d3 d4 d5 ?_)
   intro v' w4 hown hgrow hne
   clear d1 d2 d3 d4 d5
   have hob:∀c,u7.ownBlock=some c→w.heap.size≤c:=fun c hc=>(HO.out.lt c hc).1
   have HO4:Hid (w4.ownsRow w.heap.size 107 8 v' (F ++ [(⟨⟨xa,xm,xo,xe,xs,xx,xt,xh⟩,ta,tc,ha,hc'⟩:WP)]).length (cellsAll WP.cells (F ++ [(⟨⟨xa,xm,xo,xe,xs,xx,xt,xh⟩,ta,tc,ha,hc'⟩:WP)]))):=hid_intro (by rw [cellsAll_app,List.length_append];simp only [WP.cells,←HL1.out,←HL2.out];exact hown)
   have HB4:Hid (Below w.heap.size w w4):=hid_intro ((HB.out.alloc HB.out.size _).grown hgrow (HB.out.alloc HB.out.size _).size (fun c e=>hob c e))
   clear hown hgrow hne hob
   go_wp2_with fail
   go_roundw
   case rel=>exact ⟨k+1,by omega,by go_num,hid_intro (by rw [HF.out];exact HO4.out),HB4⟩
   case measure=>simp [intOf];omega
  ·have hlt2:¬(k:Int)<(len:Int):=by omega
   obtain rfl:k=len:=by omega
   rw [HEND.out] at HO
   obtain ⟨bo,cap',rfl,hm⟩:=own_made (z:=WP.zero) WP.len HO.out
   have HM:=hid_intro hm.rws
   clear hm HO
   generalize hfl:(ps.filter (inP a m)).length=fl at *
   go_wp2_with fail
   go_ret
   exact ⟨bo,⟨cap',rfl⟩,HM.out,HB.out⟩
theorem pick_wns {ao:Option Addr} {ws:List Wd} {a:ByteArray} {m:Int} {w:World} (h:Wns ao ws w):∃ps:List WP,ps.length=ws.length∧Rws 8 WP.cells WP.zero ao ps w∧(ps.filter (inP a m)).length=(ws.filter (inW a m)).length∧∀bo W,Below w.heap.size w W→Rws 8 WP.cells WP.zero bo (ps.filter (inP a m)) W→Wns bo (ws.filter (inW a m)) W:=by
 obtain ⟨ps,rfl,hR,hd⟩:=wps_of h
 refine ⟨ps,by rw [List.length_map],hR,by rw [←in_map,List.length_map],fun bo W hW hr=>?_⟩
 rw [←in_map]
 exact wns_of hr (fun p hp=>(hd p (List.mem_filter.1 hp).1).below hW)
end BilR
end Go.Proofs.YtmalfhhkjdkadaaGreatDoor
