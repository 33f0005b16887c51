/-
  impl.BillOf over a catalog and windows. The conditions: sizes of at most 1048576; the program's variables hold what its text lays.
  What is left of right lines behind a credit: right lines, no more in all, less by no more than the credit; none below 0 is another; with no credit they are as they were. No condition.
  The names that the model's bill goes by: each of an account's windows with its place, put among others by its meter. No condition.
-/
import Derived.Test.YtcilbmhkhllmjaaGreatDoorF28
namespace Go.Proofs.YtcilbmhkhllmjaaGreatDoor
open Go.ChangeShapes Go.WideShapes Go.ChangeAt Go.RowKit
set_option linter.unusedVariables false
namespace BilR
open LtR WinR LinR
open RowG (Rws cellsAll own_below getD_mem MadeG made_nil own_made)
open CatR (Me Ca mFd MsRight MRight IsCa caB crF crO)
def ownP (a:ByteArray) (ps:List WP):List WP:=ps.filter (ownF a)
theorem own_map (a:ByteArray):∀ps:List WP,(ownP a ps).map WP.d=(ps.map WP.d).filter (ownW a)
 | []=>rfl
 | p::ps=>by
  have ih:=own_map a ps
  unfold ownP at ih ⊢
  rw [List.filter_cons,List.map_cons,List.filter_cons]
  have e:ownF a p=ownW a p.d:=rfl
  rw [e]
  split
  ·rw [List.map_cons,ih]
  ·exact ih
theorem wsB_all {ws:List Wd} (h:wsB ws=true):∀x∈ws,wB x=true:=by
 unfold wsB at h
 rw [Bool.and_eq_true,List.all_eq_true] at h
 exact h.2
theorem ratC_zero {ms:List Me}:∀{l:List Wd},ratC ms l=0→∀x∈l,rC ms x=0
 | y::l,h,x,hx=>by
  unfold ratC at h
  by_cases q:rC ms y=0
  ·rw [if_pos q] at h
   rcases List.mem_cons.1 hx with rfl|h2
   ·exact q
   ·exact ratC_zero h x h2
  ·rw [if_neg q] at h;exact absurd h q
def PoO (a:ByteArray) (ps:List WP) (rs:List WP) (bo:Option Addr) (W:World):Prop:=rs.Perm (ownP a ps)∧rs.Pairwise (fun x y=>lt y.d.m x.d.m=false)∧Rws 8 WP.cells WP.zero bo rs W∧∀p∈rs,p.Reads W
def PcO (c:Ca) (a:ByteArray) (ps:List WP) (v:Value) (W:World):Prop:=∃rs gs bo cap,v=.slice bo gs.length cap∧rs.Perm (ownP a ps)∧Ris (fun p:WP=>p.d.m) rs∧(∀p∈rs,hasM c.ms p.d.m=true)∧Rws 3 CG.cells CG.zero bo gs W∧GsOk c.ms rs rs.length gs W
def PlO (c:Ca) (a:ByteArray) (O:List N × Int) (v:Value) (W:World):Prop:=∃L bo cap,v=.slice bo L.length cap∧O=(drawL (crF a c.cs) L,0)∧SRight L∧Lis bo L W
theorem srt_of {a:ByteArray} {ps rs:List WP} {ws:List Wd} (he:ps.map WP.d=ws) (hp:rs.Perm (ownP a ps)) (hr:Ris (fun p:WP=>p.d.m) rs):rs.map WP.d=srt Wd.m (ws.filter (ownW a)):=by
 refine srt_eq ?_ ?_
 ·exact List.pairwise_map.2 hr
 ·rw [←he,←own_map]
  exact hp.map _
theorem impl_bill (cv:Value) (c:Ca) (a:ByteArray) (wo:Option Addr) (wc:Nat) (ws:List Wd) (w:World) (hwl:ws.length≤1048576) (ha:a.size≤1048576) (hS:c.Small) (hsm:∀i,i<ws.length→(ws.getD i Wd.zero).Small)
 (hC:IsCa cv c w) (hL:CatR.Laid w) (hL2:DateR.Laid w) (hL3:FixR.Laid w) (hI:Wns wo ws w) :
 Calls Tryz.prog 10 #[cv,.string a,.slice wo ws.length wc] w fun e w'=>BlO w (billB c a ws) e w':=by
 obtain ⟨ps,hps,hRw,hRd⟩:=wps_of hI
 have hpl:ps.length=ws.length:=by rw [←hps,List.length_map]
 have hpm:∀p∈ps,p.d∈ws:=fun p hp=>by rw [←hps];exact List.mem_map.2 ⟨p,hp,rfl⟩
 have hsm':∀x∈ws,x.Small:=fun x hx=>by
  obtain ⟨i,hi,rfl⟩:=List.getElem_of_mem hx
  have:=hsm i hi
  rwa [show ws.getD i Wd.zero=ws[i] by simp [List.getD,hi]] at this
 have hO1:¬(8000<a.size∨400<ws.length)→(caB c&&NameR.nameB a&&wsB ws)=true→billB c a ws=billR c a ws:=fun h1 h2=>by unfold billB;rw [if_neg h1,if_pos h2]
 have hC':=hC
 obtain ⟨ma,mc,ca,cc,rfl,_⟩:=hC'
 refine ibill_in ma _ mc ca _ cc a wo ws.length wc (billB c a ws) (caB c) (NameR.nameB a) (wsB ws) (crO c a) (PoO a ps) (PcO c a ps) (PlO c a (billB c a ws)) w hwl ?_ ?_ ?_ ?_ ?_ ?_ ?_ ?_ ?_ ?_ ?_
 ·exact fun h=>by unfold billB;rw [if_pos h]
 ·exact fun h1 h2=>by unfold billB;rw [if_neg h1,if_neg (by rw [h2];exact Bool.false_ne_true)]
 ·exact fun W hW=>CatR.impl_ca _ c W hS (hC.below hW) (hL.below hW)
 ·exact fun W=>(NameR.impl_any a W ha).mono (by rintro e w' ⟨h,rfl⟩;exact ⟨h,Below.refl _ _⟩)
 ·refine fun W hW=>iwins_in wo wc ws W hwl (hI.below hW) (fun k hk ta tc h1 h2 W2 hW2 hT hH=>?_)
  obtain ⟨s1,s2,s3,s4,s5⟩:=hsm k hk
  exact impl_window_right _ ta tc h1 h2 W2 s1 s2 s3 s4 s5 ((hL2.below hW).below hW2) hT hH
 ·intro _ _ W hW
  have h:=windows_of wo wc ps a W (by omega) (hRw.below hW)
  rw [hpl] at h
  refine h.mono ?_
  rintro e w' ⟨bo,cap,rs,rfl,hp,hs,hr,hb⟩
  exact ⟨bo,cap,rs,rfl,⟨hp,hs,hr,fun p hp'=>((hRd p (List.mem_filter.1 (hp.mem_iff.1 hp')).1).below hW).below hb⟩,hb⟩
 ·intro hq ht rs bo cap W hPO hW
  obtain ⟨hp,hs,hr,hd⟩:=hPO
  have ht':=ht
  simp only [Bool.and_eq_true] at ht'
  obtain ⟨⟨t1,t2⟩,t3⟩:=ht'
  have hin:∀p∈rs,p.d∈ws:=fun p hp'=>hpm p (List.mem_filter.1 (hp.mem_iff.1 hp')).1
  have hlen:rs.length≤1048576:=by
   have h1:=hp.length_eq
   have h2:(ownP a ps).length≤ps.length:=List.length_filter_le ..
   omega
  refine (charges_of _ c bo cap rs W hlen hS (hC.below hW) t1 (hL.below hW) (hL2.below hW) hr hs hd (fun p hp'=>wsB_all t3 _ (hin p hp')) (fun p hp'=>hsm' _ (hin p hp'))).mono ?_
  rintro e w' ⟨hR,hb⟩
  refine ⟨?_,hb⟩
  have hmp:(rs.map WP.d).Perm (ws.filter (ownW a)):=by rw [←hps,←own_map];exact hp.map _
  have hall:(ws.filter (ownW a)).all (fun x=>hasM c.ms x.m)=true↔∀p∈rs,hasM c.ms p.d.m=true:=by
   rw [List.all_eq_true]
   constructor
   ·exact fun h p hp'=>h _ (hmp.mem_iff.1 (List.mem_map.2 ⟨p,hp',rfl⟩))
   ·intro h x hx
    obtain ⟨p,hp',rfl⟩:=List.mem_map.1 (hmp.mem_iff.2 hx)
    exact h p hp'
  have hnd:nodB ((ws.filter (ownW a)).map Wd.m)=true↔(rs.map (fun p:WP=>p.d.m)).Nodup:=by
   rw [nodB_iff,←(hmp.map Wd.m).nodup_iff,List.map_map];rfl
  rcases hR with ⟨v,rfl,p,hp',hn⟩|⟨hA,⟨v,rfl,hn⟩|⟨v,gs,rfl,hri,ho,hg⟩⟩
  ·refine ⟨v,6,rfl,.inl ⟨by decide,?_⟩⟩
   rw [hO1 hq ht]
   unfold billR
   rw [if_pos]
   cases hc:(ws.filter (ownW a)).all (fun x=>hasM c.ms x.m)
   ·rfl
   ·have:=hall.1 hc p hp';rw [hn] at this;cases this
  ·refine ⟨v,10,rfl,.inl ⟨by decide,?_⟩⟩
   rw [hO1 hq ht]
   unfold billR
   rw [if_neg (by rw [hall.2 hA];exact fun e=>by cases e),if_pos]
   cases hc:nodB ((ws.filter (ownW a)).map Wd.m)
   ·rfl
   ·exact absurd (hnd.1 hc) hn
  ·obtain ⟨ao,cp,rfl,hm⟩:=own_made (z:=CG.zero) CG.len ho
   exact ⟨_,0,rfl,.inr ⟨rfl,rs,gs,ao,cp,rfl,hp,hri,hA,hm.rws,hg⟩⟩
 ·intro hq ht v W hPC hW
  obtain ⟨rs,gs,bo,cap,rfl,hp,hri,hA,hr,hg⟩:=hPC
  have ht':=ht
  simp only [Bool.and_eq_true] at ht'
  obtain ⟨⟨t1,t2⟩,t3⟩:=ht'
  have hmR:=(CatR.caB_iff.1 t1).1
  have hin:∀p∈rs,p.d∈ws:=fun p hp'=>hpm p (List.mem_filter.1 (hp.mem_iff.1 hp')).1
  have hS':=srt_of hps hp hri
  obtain ⟨S,hSe⟩:∃S,S=srt Wd.m (ws.filter (ownW a)):=⟨_,rfl⟩
  rw [←hSe] at hS'
  have hsl:S.length=gs.length:=by rw [←hS',List.length_map,hg.1]
  have hmem:∀x∈S,∃p∈rs,p.d=x:=fun x hx=>by rw [←hS'] at hx;simpa using hx
  have hgd:∀i,i<gs.length→S.getD i Wd.zero=(rs.getD i WP.zero).d∧rs.getD i WP.zero∈rs:=fun i hi=>by
   have hi':i<rs.length:=by rw [←hg.1];exact hi
   refine ⟨?_,getD_mem rs i hi'⟩
   rw [←hS'];simp [List.getD,hi']
  have hall:(ws.filter (ownW a)).all (fun x=>hasM c.ms x.m)=true:=by
   rw [List.all_eq_true]
   intro x hx
   have hx':x∈S:=by rw [hSe];exact (srt_perm _).mem_iff.2 hx
   obtain ⟨p,hp',rfl⟩:=hmem x hx'
   exact hA p hp'
  have hRS:Ris Wd.m S:=by rw [←hS'];exact List.pairwise_map.2 hri
  have hnd:nodB ((ws.filter (ownW a)).map Wd.m)=true:=by
   rw [nodB_iff,←((srt_perm (f:=Wd.m) (ws.filter (ownW a))).map Wd.m).nodup_iff,←hSe]
   exact ris_nodup hRS
  have hO2:billB c a ws=if ratC c.ms S≠0 then ([],ratC c.ms S) else (drawL (crF a c.cs) ((S.map (rN c.ms)).filter nz),0):=by
   rw [hO1 hq ht]
   unfold billR
   rw [if_neg (by rw [hall];exact fun e=>by cases e),if_neg (by rw [hnd];exact fun e=>by cases e),←hSe]
  have hlen:gs.length≤1048576:=by
   have h1:=hp.length_eq
   have h2:(ownP a ps).length≤ps.length:=List.length_filter_le ..
   have:=hg.1
   omega
  have hfi:∀x∈S,MRight (mFd x.m c.ms)∧(mFd x.m c.ms).n=x.m∧wB x=true∧x.Small:=fun x hx=>by
   obtain ⟨p,hp',rfl⟩:=hmem x hx
   obtain ⟨f1,f2⟩:=has_found hmR (hA p hp')
   exact ⟨f1,f2,wsB_all t3 _ (hin p hp'),hsm' _ (hin p hp')⟩
  refine (rated_in c.ms S bo cap gs W hlen hsl hr (fun i hi=>?_) (fun i hi W2 hW2=>?_)).mono ?_
  ·obtain ⟨e1,e2⟩:=hgd i hi
   obtain ⟨f1,f2,f3,f4⟩:=hfi (S.getD i Wd.zero) (getD_mem S i (by omega))
   have e3:(rN c.ms (S.getD i Wd.zero)).i=(S.getD i Wd.zero).m:=f2
   rw [e3]
   refine ⟨?_,f4.2.1⟩
   rw [(hg.2 i (by rw [←hg.1];exact hi)).1,e1]
  ·obtain ⟨e1,e2⟩:=hgd i hi
   obtain ⟨f1,f2,f3,f4⟩:=hfi (S.getD i Wd.zero) (getD_mem S i (by omega))
   obtain ⟨g1,g2,g3⟩:=hg.2 i (by rw [←hg.1];exact hi)
   rw [e1] at f1 f2 f3 f4 ⊢
   rw [g2]
   exact CatR.impl_rate _ _ _ W2 ((hL3.below hW).below hW2) f1 (valV_in f3 _) (g3.below hW2).1
  ·rintro e w' ⟨hR,hb⟩
   refine ⟨?_,hb⟩
   rcases hR with ⟨hz,v,rfl⟩|⟨hz,v,rfl,ho⟩
   ·exact ⟨v,_,rfl,.inl ⟨hz,by rw [hO2,if_pos hz]⟩⟩
   ·obtain ⟨ao,cp,rfl,hm⟩:=own_made (cells:=N.cells) (k:=2) (z:=N.zero) (fun _=>rfl) ho
    refine ⟨_,0,rfl,.inr ⟨rfl,_,ao,cp,rfl,by rw [hO2,if_neg (by rw [hz];exact fun h=>h rfl)],lines_right hmR hRS (fun x hx=>?_) (fun x hx=>(hfi x hx).2.2.1) (fun x hx=>?_),hm.rws⟩⟩
    ·obtain ⟨p,hp',rfl⟩:=hmem x hx
     exact hA p hp'
    ·exact ratC_zero hz x hx
 ·rintro v W W' ⟨L,bo,cap,rfl,h1,h2,h3⟩ hb
  exact ⟨L,bo,cap,rfl,h1,h2,h3.below hb⟩
 ·exact fun W hW=>CatR.impl_cr _ c a W hS (hC.below hW) (hL.below hW)
 ·rintro hq ht v W ⟨L,bo,cap,rfl,h1,h2,h3⟩
  simp only [Bool.and_eq_true] at ht
  obtain ⟨⟨t1,t2⟩,t3⟩:=ht
  have hcr:crO c a=crF a c.cs:=by unfold crO;rw [if_pos t1]
  have hd:drawB (crO c a) L=drawL (crF a c.cs) L:=by
   unfold drawB
   obtain ⟨q1,q2⟩:=cr_in (CatR.caB_iff.1 t1).2 a
   rw [sB_iff.2 h2,hcr,decide_eq_true (by omega)];rfl
  refine (impl_drawn bo cap L (crO c a) W (by have:=h2.1;omega) (fun e he=>?_) h3).mono ?_
  ·obtain ⟨i,hi,rfl⟩:=List.getElem_of_mem he
   have:=(h2.2 i hi).2
   rw [show L.getD i N.zero=L[i] by simp [List.getD,hi]] at this
   unfold lOk at this
   simp only [Bool.and_eq_true] at this
   have:=(CatR.name_le this.1).2
   omega
  ·rintro e w' ⟨ao,cp,rfl,hm,hb⟩
   rw [hd] at hm ⊢
   rw [h1]
   exact ⟨ao,cp,rfl,rfl,hm,hb⟩
end BilR
namespace BilR
open LinR RowG LtR
theorem sr_rise {es:List N} (h:SRight es):es.Pairwise (fun x y=>lt x.i y.i=true):=by
 rw [List.pairwise_iff_getElem]
 have key:∀j,j<es.length→∀i,i<j→lt (es.getD i N.zero).i (es.getD j N.zero).i=true:=by
  intro j
  induction j with
  | zero=>intro _ i hi;omega
  | succ j ih =>
   intro hj i hi
   have h1:lt (es.getD j N.zero).i (es.getD (j+1) N.zero).i=true:=(h.2 (j+1) hj).1
   by_cases e:i=j
   ·subst e;exact h1
   ·exact lt_trans (ih (by omega) i (by omega)) h1
 intro i j hi hj hij
 have:=key j hj i hij
 simpa [List.getD,hi,hj] using this
theorem dl_names (c:Int) (es:List N):∀k,k≤es.length→(dl c es k).map N.i=(es.take k).map N.i
 | 0,_=>rfl
 | k+1,h=>by rw [dl,List.map_append,dl_names c es k (by omega),take_more (z:=N.zero) es k (by omega),List.map_append];rfl
theorem dl_mem2 {c:Int} {es:List N}:∀{k},k≤es.length→∀e∈dl c es k,∃j,j<es.length∧e=⟨(es.getD j N.zero).i,(es.getD j N.zero).n-pd (cr c es j) (es.getD j N.zero).n⟩
 | 0,_,e,h=>by cases h
 | k+1,hk,e,h=>by
  rcases List.mem_append.1 h with h|h
  ·exact dl_mem2 (by omega) e h
  ·simp only [List.mem_singleton] at h
   exact ⟨k,by omega,h⟩
theorem dl_has {c:Int} {es:List N} (j:Nat):∀{k},j<k→(⟨(es.getD j N.zero).i,(es.getD j N.zero).n-pd (cr c es j) (es.getD j N.zero).n⟩:N)∈dl c es k
 | 0,h=>by omega
 | k+1,h=>by
  rw [dl]
  by_cases e:j=k
  ·subst e;exact List.mem_append_right _ (List.mem_singleton.2 rfl)
  ·exact List.mem_append_left _ (dl_has j (by omega))
theorem sum_app (a b:List N):sumL (a++b)=sumL a+sumL b:=by unfold sumL;rw [List.map_append,List.sum_append]
theorem sum_nz:∀L:List N,sumL (L.filter nz)=sumL L
 | []=>rfl
 | x::L=>by
  have h:=sum_nz L
  have e:∀y M,sumL (y::M)=y.n+sumL M:=fun y M=>by unfold sumL;rw [List.map_cons,List.sum_cons]
  by_cases q:x.n=0
  ·rw [List.filter_cons_of_neg (by unfold nz;simp [q]),e,h,q,Int.zero_add]
  ·rw [List.filter_cons_of_pos (by unfold nz;simp [q]),e,e,h]
theorem sum_dl (c:Int) (es:List N):∀k,k≤es.length→sumL (dl c es k)=sumL (es.take k)-(c-cr c es k)
 | 0,_=>by simp [dl,cr]
 | k+1,h=>by
  have i:=sum_dl c es k (by omega)
  have e:sumL [(⟨(es.getD k N.zero).i,(es.getD k N.zero).n-pd (cr c es k) (es.getD k N.zero).n⟩:N)]=(es.getD k N.zero).n-pd (cr c es k) (es.getD k N.zero).n:=by simp [sumL]
  rw [dl,sum_app,e,i,sum_take es k (by omega),cr]
  omega
theorem draw_sum {c:Int} (es:List N) (hc:0≤c):sumL (drawL c es)≤sumL es∧sumL es-sumL (drawL c es)≤c:=by
 unfold drawL
 rw [sum_nz,sum_dl c es es.length (Nat.le_refl _),List.take_length]
 have:=cr_bd es hc es.length
 omega
theorem draw_zero {es:List N} (h:SRight es):drawL 0 es=es:=by
 have h0:∀k,cr 0 es k=0:=fun k=>by have:=cr_bd es (Int.le_refl 0) k;omega
 have hp:∀n,pd 0 n=0:=fun n=>by have:=pd_bd (c:=0) (n:=n) (Int.le_refl 0);omega
 have hd:∀k,k≤es.length→dl 0 es k=es.take k:=by
  intro k
  induction k with
  | zero=>intro _;rfl
  | succ k ih =>
   intro hk
   rw [dl,ih (by omega),take_more (z:=N.zero) es k (by omega),h0,hp,Int.sub_zero]
 unfold drawL
 rw [hd _ (Nat.le_refl _),List.take_length,List.filter_eq_self]
 intro e he
 obtain ⟨i,hi,rfl⟩:=List.getElem_of_mem he
 have h1:=(h.2 i hi).2
 unfold lOk at h1
 simp only [Bool.and_eq_true,decide_eq_true_eq] at h1
 rw [show es.getD i N.zero=es[i] by simp [List.getD,hi]] at h1
 unfold nz
 simpa using h1.2.2
theorem draw_found {c:Int} {es:List N} (hc:0≤c) {j:Nat} (hj:j<es.length) (hn:(es.getD j N.zero).n<0):es.getD j N.zero∈drawL c es:=by
 unfold drawL
 have h1:=dl_has (c:=c) (es:=es) j hj
 have h2:=pd_bd (n:=(es.getD j N.zero).n) (cr_bd es hc j).1
 rw [h2.2.2.1 (by omega),Int.sub_zero] at h1
 refine List.mem_filter.2 ⟨h1,?_⟩
 generalize es.getD j N.zero=X at *
 unfold nz
 simp only [decide_eq_true_eq]
 omega
theorem draw_right {c:Int} {es:List N} (h:SRight es) (hc:0≤c):SRight (drawL c es):=by
 have hr:(dl c es es.length).Pairwise (fun x y=>lt x.i y.i=true):=by
  have h1:((dl c es es.length).map N.i).Pairwise (fun x y=>lt x y=true):=by
   rw [dl_names c es es.length (Nat.le_refl _),List.take_length,List.pairwise_map]
   exact sr_rise h
  rwa [List.pairwise_map] at h1
 refine ⟨Nat.le_trans (List.length_filter_le _ _) (by rw [dl_len];exact h.1),sok_of (hr.filter _) (fun e he=>?_)⟩
 obtain ⟨h1,h2⟩:=List.mem_filter.1 he
 obtain ⟨j,hj,rfl⟩:=dl_mem2 (Nat.le_refl _) e h1
 have h3:=(h.2 j hj).2
 have h4:=pd_bd (n:=(es.getD j N.zero).n) (cr_bd es hc j).1
 generalize es.getD j N.zero=x at *
 generalize cr c es j=k at *
 obtain ⟨xi,xn⟩:=x
 unfold nz at h2
 unfold lOk nOk at h3 ⊢
 simp only [Bool.and_eq_true,decide_eq_true_eq] at h2 h3 h4 ⊢
 refine ⟨h3.1,?_,h2⟩
 omega
theorem bill_right {c:CatR.Ca} {a:ByteArray} {ws:List WinR.Wd} (hl:ws.length≤1048576) (h:(billB c a ws).2=0):SRight (billB c a ws).1:=by
 unfold billB at h ⊢
 split at h
 ·cases h
 ·rename_i h1
  rw [if_neg h1]
  split at h
  ·rename_i ht
   rw [if_pos ht]
   simp only [Bool.and_eq_true] at ht
   obtain ⟨⟨t1,t2⟩,t3⟩:=ht
   have hmR:=(CatR.caB_iff.1 t1).1
   have hcsR:=(CatR.caB_iff.1 t1).2
   unfold billR at h ⊢
   dsimp only at h ⊢
   split at h
   ·cases h
   ·rename_i g1
    rw [if_neg g1]
    split at h
    ·cases h
    ·rename_i g2
     rw [if_neg g2]
     split at h
     ·rename_i g3;exact absurd h g3
     ·rename_i g3
      rw [if_neg g3]
      have hall:(ws.filter (ownW a)).all (fun x=>hasM c.ms x.m)=true:=by
       cases hq:(ws.filter (ownW a)).all (fun x=>hasM c.ms x.m)
       ·exact absurd hq g1
       ·rfl
      have hnd:((ws.filter (ownW a)).map WinR.Wd.m).Nodup:=nodB_iff.1 (by simpa using g2)
      have h5:ratC c.ms (srt WinR.Wd.m (ws.filter (ownW a)))=0:=by simpa using g3
      have hin:∀x∈srt WinR.Wd.m (ws.filter (ownW a)),x∈ws∧ownW a x=true:=fun x hx=>List.mem_filter.1 ((srt_perm _).mem_iff.1 hx)
      have hsr:SRight (((srt WinR.Wd.m (ws.filter (ownW a))).map (rN c.ms)).filter nz):=lines_right hmR (srt_ris _ hnd) (fun x hx=>List.all_eq_true.1 hall x ((srt_perm _).mem_iff.1 hx)) (fun x hx=>wsB_all t3 _ (hin x hx).1) (fun x hx=>ratC_zero h5 x hx)
      exact draw_right hsr (cr_in hcsR a).1
  ·cases h
theorem bill_len2 {c:CatR.Ca} {a:ByteArray} {ws:List WinR.Wd} (h:ws.length≤1048576):(billB c a ws).1.length≤1048576:=by
 unfold billB
 split
 ·simp
 ·split
  ·unfold billR
   dsimp only
   split
   ·simp
   ·split
    ·simp
    ·split
     ·simp
     ·unfold drawL
      have h1:=List.length_filter_le LinR.nz (LinR.dl (CatR.crF a c.cs) (List.filter LinR.nz (List.map (rN c.ms) (srt WinR.Wd.m (List.filter (ownW a) ws)))) (List.filter LinR.nz (List.map (rN c.ms) (srt WinR.Wd.m (List.filter (ownW a) ws)))).length)
      rw [dl_len] at h1
      have h2:=List.length_filter_le LinR.nz (List.map (rN c.ms) (srt WinR.Wd.m (List.filter (ownW a) ws)))
      rw [List.length_map,(srt_perm (f:=WinR.Wd.m) (List.filter (ownW a) ws)).length_eq] at h2
      have h3:(List.filter (ownW a) ws).length≤ws.length:=List.length_filter_le ..
      dsimp only at h1 ⊢
      omega
  ·simp
end BilR
namespace BilR
open LtR WinR LinR
open RowG (getD_mem)
open NetR (put fnd nlt addN)
def ixs (a:ByteArray) (ws:List Wd) (k:Nat):List Nat:=(List.range k).filter (fun j=>ownW a (ws.getD j Wd.zero))
def wm (ws:List Wd) (j:Nat):ByteArray:=(ws.getD j Wd.zero).m
def mk (ws:List Wd) (j:Nat):N:=⟨wm ws j,(j:Int)⟩
def jx (a:ByteArray) (ws:List Wd) (k:Nat):List Nat:=srt (wm ws) (ixs a ws k)
def nms (a:ByteArray) (ws:List Wd) (k:Nat):List N:=(jx a ws k).map (mk ws)
theorem ixs_more (a:ByteArray) (ws:List Wd) (k:Nat):ixs a ws (k+1)=ixs a ws k++(if ownW a (ws.getD k Wd.zero)=true then [k] else []):=by
 unfold ixs
 rw [List.range_succ,List.filter_append]
 congr 1
 rw [List.filter_cons]
 split<;>simp_all
theorem ixs_map (a:ByteArray) (ws:List Wd):(ixs a ws ws.length).map (fun j=>ws.getD j Wd.zero)=ws.filter (ownW a):=by
 have e:ws=(List.range ws.length).map (fun j=>ws.getD j Wd.zero):=by
  refine List.ext_getElem (by simp) (fun i h1 h2=>?_)
  simp [List.getD,h1]
 conv=>rhs;rw [e]
 rw [List.filter_map]
 rfl
theorem ixs_lt {a:ByteArray} {ws:List Wd} {k j:Nat} (h:j∈ixs a ws k):j<k∧ownW a (ws.getD j Wd.zero)=true:=by
 unfold ixs at h
 obtain ⟨h1,h2⟩:=List.mem_filter.1 h
 exact ⟨List.mem_range.1 h1,h2⟩
theorem jx_lt {a:ByteArray} {ws:List Wd} {k j:Nat} (h:j∈jx a ws k):j<k∧ownW a (ws.getD j Wd.zero)=true:=ixs_lt ((srt_perm _).mem_iff.1 h)
theorem jx_wds (a:ByteArray) (ws:List Wd):(jx a ws ws.length).map (fun j=>ws.getD j Wd.zero)=srt Wd.m (ws.filter (ownW a)):=by
 rw [←ixs_map]
 exact srt_map (f:=Wd.m) (fun j=>ws.getD j Wd.zero) (ixs a ws ws.length)
theorem nms_eq (a:ByteArray) (ws:List Wd) (k:Nat):nms a ws k=srt N.i ((ixs a ws k).map (mk ws)):=srt_map (f:=N.i) (mk ws) (ixs a ws k)
theorem nms_other {a:ByteArray} {ws:List Wd} {k:Nat} (h:ownW a (ws.getD k Wd.zero)=false):nms a ws (k+1)=nms a ws k:=by
 rw [nms_eq,nms_eq,ixs_more,h];simp
theorem put_insB:∀{L:List N} {x:N},fnd L x.i=false→put L x=insB N.i x L
 | [],x,_=>rfl
 | y::l,x,h=>by
  unfold put NetR.ins
  unfold NetR.fnd at h
  unfold insB
  cases q:lt y.i x.i
  ·rw [q,cond_false] at h
   have q2:nlt y x=false:=q
   cases q3:lt x.i y.i
   ·have:=lt_total q q3
    rw [this] at h;simp at h
   ·have q4:nlt x y=true:=q3
    simp [q2,q4]
  ·rw [q,cond_true] at h
   have q2:nlt y x=true:=q
   rw [if_pos q2,if_pos rfl]
   have:=put_insB h
   unfold put at this
   rw [this]
theorem nms_own {a:ByteArray} {ws:List Wd} {k:Nat} (h:ownW a (ws.getD k Wd.zero)=true) (hf:fnd (nms a ws k) (wm ws k)=false):put (nms a ws k) (mk ws k)=nms a ws (k+1):=by
 rw [put_insB (x:=mk ws k) hf,nms_eq,nms_eq,ixs_more,if_pos h,List.map_append,List.map_cons,List.map_nil,srt_snoc]
theorem fnd_some:∀{L:List N} {x:ByteArray},fnd L x=true→∃y∈L,y.i=x
 | y::l,x,h=>by
  unfold NetR.fnd at h
  cases q:lt y.i x
  ·rw [q,cond_false] at h
   exact ⟨y,List.mem_cons_self ..,toList_inj (by simpa using h)⟩
  ·rw [q,cond_true] at h
   obtain ⟨z,hz,e⟩:=fnd_some h
   exact ⟨z,List.mem_cons_of_mem _ hz,e⟩
theorem lt_irr (x:ByteArray):lt x x=false:=by
 cases h:lt x x
 ·rfl
 ·have:=lt_asymm h;rw [h] at this;cases this
theorem fnd_none:∀{L:List N} {x:ByteArray},Ris N.i L→fnd L x=false→∀y∈L,y.i≠x
 | y::l,x,hR,h,z,hz,e=>by
  obtain ⟨h1,h2⟩:=List.pairwise_cons.1 hR
  unfold NetR.fnd at h
  cases q:lt y.i x
  ·rw [q,cond_false] at h
   rcases List.mem_cons.1 hz with rfl|hz
   ·rw [e] at h;simp at h
   ·have:=h1 z hz
    rw [e] at this;rw [this] at q;cases q
  ·rw [q,cond_true] at h
   rcases List.mem_cons.1 hz with rfl|hz
   ·rw [e,lt_irr] at q;cases q
   ·exact fnd_none h2 h z hz e
def NoTwo (a:ByteArray) (ws:List Wd) (k:Nat):Prop:=((ixs a ws k).map (wm ws)).Nodup
theorem nms_ris {a:ByteArray} {ws:List Wd} {k:Nat} (h:NoTwo a ws k):Ris N.i (nms a ws k):=by
 rw [nms_eq]
 refine srt_ris _ ?_
 rw [List.map_map]
 exact h
theorem noTwo_other {a:ByteArray} {ws:List Wd} {k:Nat} (h:ownW a (ws.getD k Wd.zero)=false) (hn:NoTwo a ws k):NoTwo a ws (k+1):=by
 unfold NoTwo at hn ⊢
 rw [ixs_more,h];simpa using hn
theorem noTwo_own {a:ByteArray} {ws:List Wd} {k:Nat} (h:ownW a (ws.getD k Wd.zero)=true) (hf:fnd (nms a ws k) (wm ws k)=false) (hn:NoTwo a ws k):NoTwo a ws (k+1):=by
 unfold NoTwo
 rw [ixs_more,if_pos h,List.map_append,List.nodup_append]
 refine ⟨hn,by simp,fun x hx y hy=>?_⟩
 simp only [List.map_cons,List.map_nil,List.mem_singleton] at hy
 subst hy
 obtain ⟨j,hj,rfl⟩:=List.mem_map.1 hx
 exact fnd_none (nms_ris hn) hf (mk ws j) (List.mem_map.2 ⟨j,(srt_perm _).mem_iff.2 hj,rfl⟩)
theorem two_of {a:ByteArray} {ws:List Wd} {k:Nat} (hk:k<ws.length) (h:ownW a (ws.getD k Wd.zero)=true) (hf:fnd (nms a ws k) (wm ws k)=true):¬((ws.filter (ownW a)).map Wd.m).Nodup:=by
 intro hn
 obtain ⟨y,hy,e⟩:=fnd_some hf
 obtain ⟨j,hj,rfl⟩:=List.mem_map.1 hy
 obtain ⟨h1,h2⟩:=jx_lt hj
 have hp:((List.range ws.length).filter (fun j=>ownW a (ws.getD j Wd.zero))).Pairwise (fun i j=>wm ws i≠wm ws j):=by
  rw [←ixs_map,List.map_map] at hn
  exact List.pairwise_map.1 hn
 have hs:[j,k].Sublist ((List.range ws.length).filter (fun j=>ownW a (ws.getD j Wd.zero))):=by
  have h3:[j,k].Sublist (List.range ws.length):=by
   have h4:([j] ++ [k]).Sublist (List.range k++(List.range (ws.length-k)).map (k + ·)):=by
    refine List.Sublist.append (List.singleton_sublist.2 (List.mem_range.2 h1)) (List.singleton_sublist.2 (List.mem_map.2 ⟨0,List.mem_range.2 (by omega),by omega⟩))
   rw [←List.range_add,show k+(ws.length-k)=ws.length by omega] at h4
   exact h4
  have:=h3.filter (fun j=>ownW a (ws.getD j Wd.zero))
  rwa [show [j,k].filter (fun j=>ownW a (ws.getD j Wd.zero))=[j,k] from List.filter_eq_self.2 (fun z hz=>by rcases List.mem_cons.1 hz with rfl|hz;exact h2;rcases List.mem_cons.1 hz with rfl|hz;exact h;cases hz)] at this
 have:=hp.sublist hs
 simp only [List.pairwise_cons,List.mem_singleton,forall_eq] at this
 exact this.1 e
theorem noTwo_all {a:ByteArray} {ws:List Wd} (h:NoTwo a ws ws.length):((ws.filter (ownW a)).map Wd.m).Nodup:=by
 rw [←ixs_map,List.map_map];exact h
end BilR
end Go.Proofs.YtcilbmhkhllmjaaGreatDoor
